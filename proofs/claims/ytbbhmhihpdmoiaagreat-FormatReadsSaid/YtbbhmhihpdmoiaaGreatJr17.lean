import Derived.Test.YtbbhmhihpdmoiaaGreatJr14
set_option linter.unusedVariables false
set_option linter.unusedSimpArgs false
set_option maxRecDepth 100000
set_option maxHeartbeats 32000000
namespace Go.Proofs.YtbbhmhihpdmoiaaGreat
namespace Fx
open Go Go.RowKit Wm
def Dg (d:List Nat):Prop:=d.length=20∧∀ x∈d,x < 65536
def xH:List Nat→List Nat→Nat→List Nat
 | x :: xs,y :: ys,c=>(x + y + c) % 65536 :: xH xs ys ((x + y + c) / 65536)
 | _,_,_=>[]
def pad (p:List Nat):List Nat:=p ++ List.replicate (20 - p.length) 0
theorem xQ (p:List Nat) (v:Nat) (neg:Bool) (h:p.length < 20):(eP neg (pad p)).setIfInBounds (1 + p.length) (.int .u64 (v:Int))=eP neg (pad (p ++ [v])):=by
 unfold eP pad
 rw [List.setIfInBounds_toArray]
 congr 1
 rw [Nat.add_comm,List.set_cons_succ]
 congr 1
 rw [show 20 - p.length=(20 - (p ++ [v]).length) + 1 from by simp;omega,List.replicate_succ]
 simp [pE,List.set_append_right]
theorem jW (neg:Bool) (d:List Nat) (k:Nat) (h:k < d.length):(eP neg d)[1 + k]?=some (.int .u64 ((d.getD k 0:Nat):Int)):=by
 unfold eP
 rw [List.getElem?_toArray,Nat.add_comm,List.getElem?_cons_succ,cO]
 simp [aS,h,pE]
theorem xR (p:List Nat) (h:p.length≤20):(pad p).length=20:=by simp [pad];omega
structure MInv (nx ny:Bool) (dx dy:List Nat) (w:World) (k c:Nat) (p:List Nat) (wr:World):Prop where
 kl:k≤20
 pl:p.length=k
 cl:c≤1
 eq:xH dx dy 0=p ++ xH (dx.drop k) (dy.drop k) c
 bx:wr.heap[w.heap.size]?=some (.cells (eP nx dx) 214 (0,0))
 wO:wr.heap[w.heap.size + 1]?=some (.cells (eP ny dy) 214 (0,0))
 bz:wr.heap[w.heap.size + 1 + 1 + 1]?=some (.cells (eP false (pad p)) 214 (0,0))
 br:wr.heap[w.heap.size + 1 + 1]?=some (.cells (eP false zeros) 214 (0,0))
 below:Below w.heap.size w wr
theorem oL (w:World) (A B C D:Obj):(((((w.alloc A).alloc B).alloc C).alloc D).heap[w.heap.size]?=some A∧((((w.alloc A).alloc B).alloc C).alloc D).heap[w.heap.size + 1]?=some B)∧((((w.alloc A).alloc B).alloc C).alloc D).heap[w.heap.size + 1 + 1]?=some C∧((((w.alloc A).alloc B).alloc C).alloc D).heap[w.heap.size + 1 + 1 + 1]?=some D:=by
 have h0:(w.alloc A).heap[w.heap.size]?=some A:=aG w A
 have h1:((w.alloc A).alloc B).heap[w.heap.size + 1]?=some B:=heap_alloc2_new w A B
 have h2:(((w.alloc A).alloc B).alloc C).heap[w.heap.size + 1 + 1]?=some C:=by
  have:=aG ((w.alloc A).alloc B) C
  simpa only [aR] using this
 have h3:((((w.alloc A).alloc B).alloc C).alloc D).heap[w.heap.size + 1 + 1 + 1]?=some D:=by
  have:=aG (((w.alloc A).alloc B).alloc C) D
  simpa only [aR] using this
 exact ⟨⟨dW (dW (dW h0)),dW (dW h1)⟩,dW h2,h3⟩
theorem WK (dx dy:List Nat) (k c:Nat) (hx:k < dx.length) (hy:k < dy.length) :
  xH (dx.drop k) (dy.drop k) c=((dx.getD k 0 + dy.getD k 0 + c) % 65536) :: xH (dx.drop (k + 1)) (dy.drop (k + 1)) ((dx.getD k 0 + dy.getD k 0 + c) / 65536):=by
 rw [List.drop_eq_getElem_cons hx,List.drop_eq_getElem_cons hy,xH]
 simp [aS,hx,hy]
theorem MInv.next {nx ny:Bool} {dx dy:List Nat} {w wr:World} {k c a b nq:Nat} {p:List Nat} (I:MInv nx ny dx dy w k c p wr) (hx:Dg dx) (hy:Dg dy) (hk:k < 20) (ha:dx.getD k 0=a) (hb:dy.getD k 0=b) (ha1:a < 65536) (hb1:b < 65536) :
  MInv nx ny dx dy w (k + 1) ((a + b + c) / 65536) (p ++ [(a + b + c) % 65536]) ((wr.drewN nq).setCell ⟨w.heap.size + 1 + 1 + 1,1 + k,none⟩ (.int .u64 (((a + b + c) % 65536:Nat):Int))):=by
 have hc:=I.cl
 have hp:=I.pl
 have hz:(wr.drewN nq).heap[w.heap.size + 1 + 1 + 1]?=some (.cells (eP false (pad p)) 214 (0,0)):=I.bz
 refine { kl:=(by omega),pl:=(by rw [aY,hp];rfl),cl:=(by omega),eq:=?_,bx:=?_,wO:=?_,bz:=?_,br:=?_,below:=?_ }
 ·rw [I.eq,WK dx dy k c (by rw [hx.1];exact hk) (by rw [hy.1];exact hk),ha,hb,dE]
  rfl
 ·rw [aH _ _ _ _ (show w.heap.size≠w.heap.size + 1 + 1 + 1 by omega)];exact I.bx
 ·rw [aH _ _ _ _ (show w.heap.size + 1≠w.heap.size + 1 + 1 + 1 by omega)];exact I.wO
 ·rw [aK _ _ _ _ _ _ hz,←hp,xQ p _ false (by omega)]
 ·rw [aH _ _ _ _ (show w.heap.size + 1 + 1≠w.heap.size + 1 + 1 + 1 by omega)];exact I.br
 ·exact Below.setCell (show Below w.heap.size w (wr.drewN nq) from ⟨I.below.os,I.below.tape,I.below.output,I.below.size,I.below.block⟩) (show w.heap.size≤w.heap.size + 1 + 1 + 1 by omega) _
def MRel (nx ny:Bool) (dx dy:List Nat) (w:World) (g:Nat) (s6 s7:Value) (wr:World):Prop :=
 ∃ k c p,g=20 - k∧s6=.int .u64 ((c:Nat):Int)∧s7=.int .i64 ((k:Nat):Int)∧MInv nx ny dx dy w k c p wr
def qB (neg:Bool) (d:List Nat) (w:World) (e:Ending) (w':World):Prop:=e=.returned (.agg (eP neg d))∧Below w.heap.size w w'
theorem uY (nx ny:Bool) (dx dy:List Nat) (w:World) (hx:Dg dx) (hy:Dg dy) :
  Calls Tryz.prog 165 #[.agg (eP nx dx),.agg (eP ny dy)] w (qB false (xH dx dy 0) w):=by
 have HX:=aA hx
 have HY:=aA hy
 clear hx hy
 go_enter Tryz.func165,Tryz.ntmps165
 go_wp2_with fail
 go_loopg [6,7] 20 (MRel nx ny dx dy w)
 case atStart =>
  refine ⟨0,0,[],rfl,rfl,rfl,?_⟩
  refine { kl:=(by omega),pl:=rfl,cl:=(by omega),eq:=rfl,bx:=?_,wO:=?_,bz:=?_,br:=?_,below:=(by go_grown) }
  ·exact (oL w _ _ _ _).1.1
  ·exact (oL w _ _ _ _).1.2
  ·exact (oL w _ _ _ _).2.2
  ·exact (oL w _ _ _ _).2.1
 case round =>
  obtain ⟨k,c,p,rfl,rfl,rfl,I⟩:=hrel
  have HI:=aA I
  by_cases hk:k < 20
  ·obtain ⟨a,ha⟩:∃ a,dx.getD k 0=a:=⟨_,rfl⟩
   obtain ⟨b,hb⟩:∃ b,dy.getD k 0=b:=⟨_,rfl⟩
   have ha1:a < 65536:=HX.out.2 a (by rw [←ha];have:=HX.out.1;simp [aS,show k < dx.length by omega])
   have hb1:b < 65536:=HY.out.2 b (by rw [←hb];have:=HY.out.1;simp [aS,show k < dy.length by omega])
   have cx:wr.cell? ⟨w.heap.size,1 + k,none⟩=some (.int .u64 (a:Int)):=by rw [aF _ _ _ _ _ _ I.bx,jW _ _ _ (by rw [HX.out.1];exact hk),ha]
   have cy:wr.cell? ⟨w.heap.size + 1,1 + k,none⟩=some (.int .u64 (b:Int)):=by rw [aF _ _ _ _ _ _ I.wO,jW _ _ _ (by rw [HY.out.1];exact hk),hb]
   have cz:wr.cell? ⟨w.heap.size + 1 + 1 + 1,1 + k,none⟩=some (.int .u64 (((pad p).getD k 0:Nat):Int)):=by rw [aF _ _ _ _ _ _ I.bz,jW _ _ _ (by rw [xR p (by have:=I.pl;omega)];exact hk)]
   have fz:wr.frozen? ⟨w.heap.size + 1 + 1 + 1,1 + k,none⟩=false:=dU I.bz
   have hc1:=I.cl
   have k0:(0:Int)≤(k:Int):=by omega
   have k1:(k:Int) < 20:=by omega
   have HA:=aA ha
   have HB:=aA hb
   clear ha hb I
   go_wp2_with fail
   go_quiet (fail)
   go_wp2_with fail
   go_roundg (20 - (k + 1))
   case measure=>omega
   case rel=>exact ⟨k + 1,_,_,rfl,by go_num,by go_num,by have:=HI.out.next (nq:=nq) HX.out HY.out hk HA.out HB.out ha1 hb1;simpa using this⟩
  ·have NS:k=20:=by have:=I.kl;omega
   have hp:=I.pl
   have Yk:pad p=p:=by unfold pad;rw [hp,NS];simp
   have hres:xH dx dy 0=p:=by
    rw [I.eq,NS,List.drop_of_length_le (by rw [HX.out.1];omega)]
    simp [xH]
   have bz:=I.bz
   have br:=I.br
   rw [Yk] at bz
   have hpl:p.length=20:=by omega
   have hs1:(eP false p).size=21:=by rw [sF,hpl]
   have hi1:(Tryz.prog.info? 214).map (·.size)=some (eP false p).size:=by rw [MJ,hs1]
   have hs0:(eP false zeros).size=(eP false p).size:=by rw [hs1];rfl
   have k1:¬ (k:Int) < 20:=by omega
   have Uf:=aA hres
   have BZ:=aA bz
   have BR:=aA br
   have HI1:=aA hi1
   have BH:=aA hs0
   have BB:=aA I.below
   clear NS hp Yk hres bz br hpl hs1 hi1 hs0 I
   go_wp2_with (first | (refine wpList_load_row rfl 214 (.tmp 5) rfl (w.heap.size + 1 + 1 + 1) rfl _ _ _ _ BZ.out aD rfl HI1.out ?_) | (refine dQ rfl 214 (.tmp 4) (.tmp 31) rfl (w.heap.size + 1 + 1) _ _ (eP false p) rfl rfl BR.out HI1.out BH.out (gV _ _) ?_))
   refine aO (v:=.agg (eP false p)) (results_cell_row rfl _ _ (w.heap.size + 1 + 1) _ _ _ _ rfl (setRow_heap _ _ _ _ _ _ BR.out) aD rfl HI1.out) rfl ?_
   rw [Uf.out]
   exact ⟨rfl,Below.row BB.out (by omega) _⟩
def rP (dx dy:List Nat):Nat→Bool
 | 0=>false
 | k + 1=>if dx.getD k 0=dy.getD k 0 then rP dx dy k else decide (dx.getD k 0 < dy.getD k 0)
def LRel (nx ny:Bool) (dx dy:List Nat) (w:World) (g:Nat) (s5:Value) (wr:World):Prop :=
 ∃ k:Nat,k=g∧k≤20∧s5=.int .i64 ((k:Int) - 1)∧rP dx dy 20=rP dx dy k∧wr.heap[w.heap.size]?=some (.cells (eP nx dx) 214 (0,0)) ∧
  wr.heap[w.heap.size + 1]?=some (.cells (eP ny dy) 214 (0,0))∧Below w.heap.size w wr
theorem JQ (nx ny:Bool) (dx dy:List Nat) (w:World) (hx:dx.length=20) (hy:dy.length=20) :
  Calls Tryz.prog 166 #[.agg (eP nx dx),.agg (eP ny dy)] w fun e w'=>e=.returned (.bool (rP dx dy 20))∧Below w.heap.size w w':=by
 have HX:=aA hx
 have HY:=aA hy
 clear hx hy
 go_enter Tryz.func166,Tryz.ntmps166
 go_wp2_with fail
 go_loopg [5] 20 (LRel nx ny dx dy w)
 case atStart=>exact ⟨20,rfl,by omega,rfl,rfl,dW (aG _ _),heap_alloc2_new w _ _,by go_grown⟩
 case round =>
  obtain ⟨k,rfl,hk,rfl,hl,bx,bb,hB⟩:=hrel
  have HL:=aA hl
  have BX:=aA bx
  have BY:=aA bb
  have HB:=aA hB
  clear hl bx bb hB
  match k,hk with
  | 0,hk =>
   go_wp2_with fail
   go_ret
   exact ⟨by rw [HL.out];rfl,HB.out⟩
  | j + 1,hk =>
   obtain ⟨a,ha⟩:∃ a,dx.getD j 0=a:=⟨_,rfl⟩
   obtain ⟨b,hb⟩:∃ b,dy.getD j 0=b:=⟨_,rfl⟩
   have cx:wr.cell? ⟨w.heap.size,1 + j,none⟩=some (.int .u64 (a:Int)):=by rw [aF _ _ _ _ _ _ BX.out,jW _ _ _ (by rw [HX.out];omega),ha]
   have cy:wr.cell? ⟨w.heap.size + 1,1 + j,none⟩=some (.int .u64 (b:Int)):=by rw [aF _ _ _ _ _ _ BY.out,jW _ _ _ (by rw [HY.out];omega),hb]
   have k0:(0:Int)≤(j:Int):=by omega
   have k1:(j:Int) < 20:=by omega
   have e1:((j + 1:Nat):Int) - 1=(j:Int):=by omega
   rw [e1]
   have HA:Hid (dx.getD j 0=a):=aA ha
   have Ga:Hid (dy.getD j 0=b):=aA hb
   clear ha hb e1
   by_cases hab:a=b
   ·have t1:((a:Int) != (b:Int))=false:=by simp;omega
    have NX:Hid (rP dx dy 20=rP dx dy j):=aA (by rw [HL.out];show (if dx.getD j 0=dy.getD j 0 then _ else _)=_;rw [aT (by rw [HA.out,Ga.out];exact hab)])
    clear hab
    go_wp2_with fail
    go_quiet (fail)
    go_wp2_with fail
    go_roundg j
    case measure=>omega
    case rel=>exact ⟨j,rfl,by omega,rfl,NX.out,BX.out,BY.out,oM _ HB.out⟩
   ·have t1:((a:Int) != (b:Int))=true:=by simp;omega
    have NX:Hid (rP dx dy 20=decide (a < b)):=aA (by rw [HL.out];show (if dx.getD j 0=dy.getD j 0 then _ else _)=_;rw [aX (by rw [HA.out,Ga.out];exact hab),HA.out,Ga.out])
    clear hab
    go_wp2_with fail
    go_quiet (fail)
    go_wp2_with fail
    go_quiet (fail)
    go_wp2_with fail
    go_ret
    exact ⟨ZX NX.out.symm,oM _ (oM _ HB.out)⟩
def xB:List Nat→List Nat→Nat→List Nat
 | x :: xs,y :: ys,c=>(x + 65536 - y - c) % 65536 :: xB xs ys (1 - (x + 65536 - y - c) / 65536)
 | _,_,_=>[]
structure Mr (nx ny:Bool) (dx dy:List Nat) (w:World) (k c:Nat) (p:List Nat) (wr:World):Prop where
 kl:k≤20
 pl:p.length=k
 cl:c≤1
 eq:xB dx dy 0=p ++ xB (dx.drop k) (dy.drop k) c
 bx:wr.heap[w.heap.size]?=some (.cells (eP nx dx) 214 (0,0))
 wO:wr.heap[w.heap.size + 1]?=some (.cells (eP ny dy) 214 (0,0))
 bz:wr.heap[w.heap.size + 1 + 1 + 1]?=some (.cells (eP false (pad p)) 214 (0,0))
 br:wr.heap[w.heap.size + 1 + 1]?=some (.cells (eP false zeros) 214 (0,0))
 below:Below w.heap.size w wr
theorem UJ (dx dy:List Nat) (k c:Nat) (hx:k < dx.length) (hy:k < dy.length) :
  xB (dx.drop k) (dy.drop k) c=((dx.getD k 0 + 65536 - dy.getD k 0 - c) % 65536) :: xB (dx.drop (k + 1)) (dy.drop (k + 1)) (1 - (dx.getD k 0 + 65536 - dy.getD k 0 - c) / 65536):=by
 rw [List.drop_eq_getElem_cons hx,List.drop_eq_getElem_cons hy,xB]
 simp [aS,hx,hy]
theorem Mr.next {nx ny:Bool} {dx dy:List Nat} {w wr:World} {k c a b s nq:Nat} {p:List Nat} (I:Mr nx ny dx dy w k c p wr) (hx:Dg dx) (hy:Dg dy) (hk:k < 20) (ha:dx.getD k 0=a) (hb:dy.getD k 0=b) (ha1:a < 65536) (hb1:b < 65536) (hs:a + 65536 - b - c=s) :
  Mr nx ny dx dy w (k + 1) (1 - s / 65536) (p ++ [s % 65536]) ((wr.drewN nq).setCell ⟨w.heap.size + 1 + 1 + 1,1 + k,none⟩ (.int .u64 ((s % 65536:Nat):Int))):=by
 have hc:=I.cl
 have hp:=I.pl
 have hz:(wr.drewN nq).heap[w.heap.size + 1 + 1 + 1]?=some (.cells (eP false (pad p)) 214 (0,0)):=I.bz
 refine { kl:=(by omega),pl:=(by rw [aY,hp];rfl),cl:=(by omega),eq:=?_,bx:=?_,wO:=?_,bz:=?_,br:=?_,below:=?_ }
 ·rw [I.eq,UJ dx dy k c (by rw [hx.1];exact hk) (by rw [hy.1];exact hk),ha,hb,hs,dE]
  rfl
 ·rw [aH _ _ _ _ (show w.heap.size≠w.heap.size + 1 + 1 + 1 by omega)];exact I.bx
 ·rw [aH _ _ _ _ (show w.heap.size + 1≠w.heap.size + 1 + 1 + 1 by omega)];exact I.wO
 ·rw [aK _ _ _ _ _ _ hz,←hp,xQ p _ false (by omega)]
 ·rw [aH _ _ _ _ (show w.heap.size + 1 + 1≠w.heap.size + 1 + 1 + 1 by omega)];exact I.br
 ·exact Below.setCell (show Below w.heap.size w (wr.drewN nq) from ⟨I.below.os,I.below.tape,I.below.output,I.below.size,I.below.block⟩) (show w.heap.size≤w.heap.size + 1 + 1 + 1 by omega) _
def ARel (nx ny:Bool) (dx dy:List Nat) (w:World) (g:Nat) (s6 s7:Value) (wr:World):Prop :=
 ∃ k c p,g=20 - k∧s6=.int .u64 ((c:Nat):Int)∧s7=.int .i64 ((k:Nat):Int)∧Mr nx ny dx dy w k c p wr
theorem AQ (nx ny:Bool) (dx dy:List Nat) (w:World) (hx:Dg dx) (hy:Dg dy) :
  Calls Tryz.prog 167 #[.agg (eP nx dx),.agg (eP ny dy)] w (qB false (xB dx dy 0) w):=by
 have HX:=aA hx
 have HY:=aA hy
 clear hx hy
 go_enter Tryz.func167,Tryz.ntmps167
 go_wp2_with fail
 go_loopg [6,7] 20 (ARel nx ny dx dy w)
 case atStart =>
  refine ⟨0,0,[],rfl,rfl,rfl,?_⟩
  refine { kl:=(by omega),pl:=rfl,cl:=(by omega),eq:=rfl,bx:=?_,wO:=?_,bz:=?_,br:=?_,below:=(by go_grown) }
  ·exact (oL w _ _ _ _).1.1
  ·exact (oL w _ _ _ _).1.2
  ·exact (oL w _ _ _ _).2.2
  ·exact (oL w _ _ _ _).2.1
 case round =>
  obtain ⟨k,c,p,rfl,rfl,rfl,I⟩:=hrel
  have HI:=aA I
  by_cases hk:k < 20
  ·obtain ⟨a,ha⟩:∃ a,dx.getD k 0=a:=⟨_,rfl⟩
   obtain ⟨b,hb⟩:∃ b,dy.getD k 0=b:=⟨_,rfl⟩
   have ha1:a < 65536:=HX.out.2 a (by rw [←ha];have:=HX.out.1;simp [aS,show k < dx.length by omega])
   have hb1:b < 65536:=HY.out.2 b (by rw [←hb];have:=HY.out.1;simp [aS,show k < dy.length by omega])
   have cx:wr.cell? ⟨w.heap.size,1 + k,none⟩=some (.int .u64 (a:Int)):=by rw [aF _ _ _ _ _ _ I.bx,jW _ _ _ (by rw [HX.out.1];exact hk),ha]
   have cy:wr.cell? ⟨w.heap.size + 1,1 + k,none⟩=some (.int .u64 (b:Int)):=by rw [aF _ _ _ _ _ _ I.wO,jW _ _ _ (by rw [HY.out.1];exact hk),hb]
   have cz:wr.cell? ⟨w.heap.size + 1 + 1 + 1,1 + k,none⟩=some (.int .u64 (((pad p).getD k 0:Nat):Int)):=by rw [aF _ _ _ _ _ _ I.bz,jW _ _ _ (by rw [xR p (by have:=I.pl;omega)];exact hk)]
   have fz:wr.frozen? ⟨w.heap.size + 1 + 1 + 1,1 + k,none⟩=false:=dU I.bz
   have hc1:=I.cl
   have k0:(0:Int)≤(k:Int):=by omega
   have k1:(k:Int) < 20:=by omega
   obtain ⟨s,hs⟩:∃ s,a + 65536 - b - c=s:=⟨_,rfl⟩
   have s1:(a:Int) + 65536 - (b:Int) - (c:Int)=(s:Int):=by omega
   have s2:s < 131072:=by omega
   have HS:=aA hs
   have HA:=aA ha
   have HB:=aA hb
   clear ha hb hs I
   go_wp2_with fail
   go_quiet (fail)
   go_wp2_with fail
   go_roundg (20 - (k + 1))
   case measure=>omega
   case rel=>exact ⟨k + 1,1 - s / 65536,_,rfl,by congr 1;omega,by go_num,by have:=HI.out.next (nq:=nq) HX.out HY.out hk HA.out HB.out ha1 hb1 HS.out;simpa using this⟩
  ·have NS:k=20:=by have:=I.kl;omega
   have hp:=I.pl
   have Yk:pad p=p:=by unfold pad;rw [hp,NS];simp
   have hres:xB dx dy 0=p:=by
    rw [I.eq,NS,List.drop_of_length_le (by rw [HX.out.1];omega)]
    simp [xB]
   have bz:=I.bz
   have br:=I.br
   rw [Yk] at bz
   have hpl:p.length=20:=by omega
   have hs1:(eP false p).size=21:=by rw [sF,hpl]
   have hi1:(Tryz.prog.info? 214).map (·.size)=some (eP false p).size:=by rw [MJ,hs1]
   have hs0:(eP false zeros).size=(eP false p).size:=by rw [hs1];rfl
   have k1:¬ (k:Int) < 20:=by omega
   have Uf:=aA hres
   have BZ:=aA bz
   have BR:=aA br
   have HI1:=aA hi1
   have BH:=aA hs0
   have BB:=aA I.below
   clear NS hp Yk hres bz br hpl hs1 hi1 hs0 I
   go_wp2_with (first | (refine wpList_load_row rfl 214 (.tmp 5) rfl (w.heap.size + 1 + 1 + 1) rfl _ _ _ _ BZ.out aD rfl HI1.out ?_) | (refine dQ rfl 214 (.tmp 4) (.tmp 33) rfl (w.heap.size + 1 + 1) _ _ (eP false p) rfl rfl BR.out HI1.out BH.out (gV _ _) ?_))
   refine aO (v:=.agg (eP false p)) (results_cell_row rfl _ _ (w.heap.size + 1 + 1) _ _ _ _ rfl (setRow_heap _ _ _ _ _ _ BR.out) aD rfl HI1.out) rfl ?_
   rw [Uf.out]
   exact ⟨rfl,Below.row BB.out (by omega) _⟩
theorem sG (neg x:Bool) (d:List Nat):(eP neg d).setIfInBounds 0 (.bool x)=eP x d:=by
 unfold eP
 rw [List.setIfInBounds_toArray]
 rfl
theorem sH (neg:Bool) (d:List Nat):(eP neg d)[0]?=some (.bool neg):=by
 unfold eP
 rw [List.getElem?_toArray]
 rfl
theorem fK (neg:Bool) (d:List Nat) (h:d.length=20):(Tryz.prog.info? 214).map (·.size)=some (eP neg d).size:=by rw [MJ,sF,h]
theorem iG (a b:Bool) (d e:List Nat) (h:d.length=20) (g:e.length=20):(eP a d).size=(eP b e).size:=by rw [sF,sF,h,g]
theorem wpList_want {P:Program} {ops:Array Oper} {Q:Exit→Act→World→Prop} {rest:List Oper} {o:Oper} {a:Act} {w:World} (hw:Region.wanted o (yielded ops a.tmps)=true)
  (h:∀ K:Act→World→Prop,(∀ a w,wpList P ops Q rest a w→K a w)→o.wp P a w K Q):wpList P ops Q (o :: rest) a w :=
 wpList_step fun K hK=>by rw [hw];simp only [if_true];exact h K hK
theorem iT {P:Program} {ops:Array Oper} {rest:List Oper} {o:Oper} {a:Act} {w:World} {Q:Exit→Act→World→Prop} (hw:Region.wanted o (yielded ops a.tmps)=true) (ty:TypeId) (x:Operand) (ho:o.op=.load ty x)
  (g:Nat) (hx:a.eval x=.pointer (some ⟨g,0,none⟩)) (t:TypeId) (cs:Array Value) (fr:Nat×Nat) (d:TypeDesc) (hg:w.heap[g]?=some (.cells cs t fr))
  (hu:P.underlying ty=some d) (hd:(match d with | .struct _ | .array _ _=>true | _=>false)=true) (hi:(P.info? ty).map (·.size)=some cs.size)
  (h:wpList P ops Q rest (a.put o.dst (.agg cs)) w):wpList P ops Q (o :: rest) a w :=
 wpList_want hw fun _ hK=>wp_load_row ty x ho g hx t cs fr d hg hu hd hi (hK _ _ h)
def NJ (neg:Bool) (d:List Nat):Bool:=!neg && !(d == zeros)
theorem Jf (neg:Bool) (d:List Nat) (w:World) (hd:d.length=20) :
  Calls Tryz.prog 168 #[.agg (eP neg d)] w (qB (NJ neg d) d w):=by
 have HI:=aA (fK neg d hd)
 have HI2:=aA (fK (NJ neg d) d hd)
 have HS:=aA (iG false (NJ neg d) zeros d rfl hd)
 have NA:=aA (fun w=>mG neg d w hd)
 have b0:((w.alloc (.cells (eP neg d) 214)).alloc (.cells (eP false zeros) 214)).heap[w.heap.size]?=some (.cells (eP neg d) 214 (0,0)):=dW (aG w _)
 have b1:((w.alloc (.cells (eP neg d) 214)).alloc (.cells (eP false zeros) 214)).heap[w.heap.size + 1]?=some (.cells (eP false zeros) 214 (0,0)):=heap_alloc2_new w _ _
 have B0:=aA b0
 have B1:=aA b1
 have c0:((w.alloc (.cells (eP neg d) 214)).alloc (.cells (eP false zeros) 214)).cell? ⟨w.heap.size,0,none⟩=some (.bool neg):=by rw [aF _ _ _ _ _ _ b0,sH]
 have f0:((w.alloc (.cells (eP neg d) 214)).alloc (.cells (eP false zeros) 214)).frozen? ⟨w.heap.size,0,none⟩=false:=dU b0
 have hB:Below w.heap.size w ((w.alloc (.cells (eP neg d) 214)).alloc (.cells (eP false zeros) 214)):=by go_grown
 have hz:eP false zeros=#[.bool false,.int .u64 0,.int .u64 0,.int .u64 0,.int .u64 0,.int .u64 0,.int .u64 0,.int .u64 0,.int .u64 0,.int .u64 0,.int .u64 0,.int .u64 0,.int .u64 0,.int .u64 0,.int .u64 0,.int .u64 0,.int .u64 0,.int .u64 0,.int .u64 0,.int .u64 0,.int .u64 0]:=rfl
 rw [hz] at c0 f0
 clear b0 b1 hz hd
 cases neg with
 | true =>
  go_enter Tryz.func168,Tryz.ntmps168
  have hL:((w.alloc (.cells ((eP true d).setIfInBounds 0 (.bool false)) 214)).alloc (.cells (eP false zeros) 214)).heap[w.heap.size]?=some (.cells (eP false d) 214 (0,0)):=by
   rw [←sG true false d]
   exact dW (aG w _)
  have hL2:((w.alloc (.cells ((eP true d).setIfInBounds 0 (.bool false)) 214)).alloc (.cells (eP false zeros) 214)).heap[w.heap.size + 1]?=some (.cells (eP false zeros) 214 (0,0)):=heap_alloc2_new w _ _
  have HL:=aA hL
  have HL2:=aA hL2
  clear hL hL2
  go_wp2_with (first | (refine wpList_load_row rfl 214 (.tmp 1) rfl w.heap.size rfl _ _ _ _ HL.out aD rfl HI2.out ?_) | (refine dQ rfl 214 (.tmp 2) (.tmp 12) rfl (w.heap.size + 1) _ _ (eP false d) rfl rfl HL2.out HI2.out HS.out (gV _ _) ?_))
  refine aO (v:=.agg (eP false d)) (results_cell_row rfl _ _ (w.heap.size + 1) _ _ _ _ rfl (setRow_heap _ _ _ _ _ _ HL2.out) aD rfl HI2.out) rfl ?_
  exact ⟨rfl,Below.row (by go_grown) (by omega) _⟩
 | false =>
  go_enter Tryz.func168,Tryz.ntmps168
  go_wp2_with (refine iT (by kernel_rfl) 214 (.tmp 1) rfl w.heap.size rfl _ _ _ _ B0.out aD rfl HI.out ?_)
  refine (NA.out _).mono ?_
  rintro e w1 ⟨rfl,hb⟩
  have k0:=dN hb c0
  have g0:=dS hb (by simp only [aR];omega) f0
  have R0:Hid ((w1.setCell ⟨w.heap.size,0,none⟩ (.bool (!(d == zeros)))).heap[w.heap.size]?=some (.cells (eP (NJ false d) d) 214 (0,0))):=aA (by rw [aK _ _ _ _ _ _ (dV hb B0.out),sG];rfl)
  have R1:Hid ((w1.setCell ⟨w.heap.size,0,none⟩ (.bool (!(d == zeros)))).heap[w.heap.size + 1]?=some (.cells (eP false zeros) 214 (0,0))):=aA (by rw [aH _ _ _ _ (show w.heap.size + 1≠w.heap.size by omega)];exact dV hb B1.out)
  have HB:Hid (Below w.heap.size w w1):=aA (by (repeat' (first | (with_reducible exact aI _ _) | (with_reducible assumption) | (with_reducible refine Below.drew ?_) | (with_reducible refine Below.setCell ?_ ?_ _) | (with_reducible refine dY ?_ (by assumption)) | (with_reducible refine Below.alloc ?_ ?_ _) | go_size)))
  clear hb c0 f0 hB
  go_wp2_with (first | (refine wpList_load_row rfl 214 (.tmp 1) rfl w.heap.size rfl _ _ _ _ R0.out aD rfl HI2.out ?_) | (refine dQ rfl 214 (.tmp 2) (.tmp 12) rfl (w.heap.size + 1) _ _ (eP (NJ false d) d) rfl rfl R1.out HI2.out HS.out (gV _ _) ?_))
  refine aO (v:=.agg (eP (NJ false d) d)) (results_cell_row rfl _ _ (w.heap.size + 1) _ _ _ _ rfl (setRow_heap _ _ _ _ _ _ R1.out) aD rfl HI2.out) rfl ?_
  exact ⟨rfl,Below.row (HB.out.setCell (aB _) _) (by omega) _⟩
def lX:Nat→Nat→List Nat
 | 0,_=>[]
 | k + 1,n=>n % 65536 :: lX k (n / 65536)
def dg (n:Nat):List Nat:=lX 20 n
theorem sV:∀ (k n:Nat),(lX k n).length=k
 | 0,_=>rfl
 | k + 1,n=>by rw [lX,bK,sV k]
theorem Dj:∀ (k n:Nat),∀ x∈lX k n,x < 65536
 | 0,_,x,h=>by simp [lX] at h
 | k + 1,n,x,h=>by
  rw [lX,List.mem_cons] at h
  rcases h with rfl | h
  ·omega
  ·exact Dj k _ x h
theorem rZ (n:Nat):Dg (dg n):=⟨sV 20 n,Dj 20 n⟩
theorem gD (n:Nat):(dg n).length=20:=sV 20 n
theorem KT:∀ (k m n c:Nat),xH (lX k m) (lX k n) c=lX k (m + n + c)
 | 0,_,_,_=>rfl
 | k + 1,m,n,c=>by
  simp only [lX,xH]
  rw [KT k]
  congr 1
  ·omega
  ·congr 1
   omega
theorem IL:∀ (k m n c:Nat),c≤1→n + c≤m→xB (lX k m) (lX k n) c=lX k (m - n - c)
 | 0,_,_,_,_,_=>rfl
 | k + 1,m,n,c,hc,h=>by
  simp only [lX,xB]
  rw [IL k _ _ _ (by omega) (by omega)]
  congr 1
  ·omega
  ·congr 1
   omega
theorem wJ:∀ (k n i:Nat),i < k→(lX k n).getD i 0=n / 65536 ^ i % 65536
 | 0,_,_,h=>absurd h (by omega)
 | k + 1,n,0,_=>by simp [lX]
 | k + 1,n,i + 1,h=>by
  rw [lX,List.getD_cons_succ,wJ k _ i (by omega),Nat.div_div_eq_div_mul,bM,bN]
theorem JS (m n:Nat):∀ k,k≤20→rP (dg m) (dg n) k=decide (m % 65536 ^ k < n % 65536 ^ k)
 | 0,_=>by simp [rP,Nat.mod_one]
 | k + 1,h=>by
  rw [rP,JS m n k (by omega)]
  unfold dg
  rw [wJ 20 m k (by omega),wJ 20 n k (by omega),Nat.mod_pow_succ,Nat.mod_pow_succ]
  have hp:0 < 65536 ^ k:=Nat.pow_pos (by omega)
  have h1:m % 65536 ^ k < 65536 ^ k:=cK _ hp
  have h2:n % 65536 ^ k < 65536 ^ k:=cK _ hp
  generalize m / 65536 ^ k % 65536=a
  generalize n / 65536 ^ k % 65536=b
  generalize m % 65536 ^ k=u at *
  generalize n % 65536 ^ k=v at *
  generalize 65536 ^ k=P at *
  split
  ·subst_vars
   simp
  ·rename_i hab
   rw [bY]
   rcases Nat.lt_or_gt_of_ne hab with h | h
   ·refine ⟨fun _=>?_,fun _=>h⟩
    have : P * (a + 1)≤P * b:=Nat.mul_le_mul_left _ h
    rw [Nat.mul_add] at this
    omega
   ·refine ⟨fun hh=>absurd hh (by omega),fun hh=>?_⟩
    have : P * (b + 1)≤P * a:=Nat.mul_le_mul_left _ h
    rw [Nat.mul_add] at this
    omega
def BB:Nat:=65536 ^ 20
theorem QN {m n:Nat} (hm:m < BB) (hn:n < BB):rP (dg m) (dg n) 20=decide (m < n):=by
 rw [JS m n 20 (by omega)]
 unfold BB at hm hn
 rw [Nat.mod_eq_of_lt hm,Nat.mod_eq_of_lt hn]
theorem Ec (m n:Nat):xH (dg m) (dg n) 0=dg (m + n):=KT 20 m n 0
theorem MF {m n:Nat} (h:n≤m):xB (dg m) (dg n) 0=dg (m - n):=IL 20 m n 0 (by omega) (by omega)
theorem XW:zeros=dg 0:=rfl
def num:List Nat→Nat
 | []=>0
 | x :: xs=>x + 65536 * num xs
theorem QE:∀ (k n:Nat),num (lX k n)=n % 65536 ^ k
 | 0,n=>by simp [lX,num,Nat.mod_one]
 | k + 1,n=>by
  rw [lX,num,QE k,bM,bN (65536 ^ k),Nat.mod_mul]
theorem Aq {n:Nat} (h:n < BB):num (dg n)=n:=by
 unfold dg
 rw [QE]
 exact Nat.mod_eq_of_lt h
theorem RL:∀ (d:List Nat),(∀ x∈d,x < 65536)→lX d.length (num d)=d
 | [],_=>rfl
 | x :: d,h=>by
  have hx:=h x (by simp)
  rw [bK,lX,num,show (x + 65536 * num d) % 65536=x by omega,show (x + 65536 * num d) / 65536=num d by omega,RL d fun y hy=>h y (by simp [hy])]
theorem Sj {d:List Nat} (h:Dg d):dg (num d)=d:=by
 have:=RL d h.2
 rw [h.1] at this
 exact this
theorem oF {n:Nat} (h:n < BB):(dg n == zeros)=decide (n=0):=by
 rw [XW]
 by_cases hn:n=0
 ·subst hn
  simp
 ·rw [aN hn,beq_eq_false_iff_ne]
  intro e
  have:=congrArg num e
  rw [Aq h,Aq (by unfold BB;exact Nat.pow_pos (by omega))] at this
  exact hn this
def bv (z:Int):Array Value:=eP (decide (z < 0)) (dg z.natAbs)
theorem AB {n:Bool} {d:List Nat} {z:Int} (h1:n=decide (z < 0)) (h2:d=dg z.natAbs):eP n d=bv z:=by rw [h1,h2];rfl
def GH (z:Int) (w:World) (e:Ending) (w':World):Prop:=e=.returned (.agg (bv z))∧Below w.heap.size w w'
theorem Av (x:Int) (w:World) (hx:x.natAbs < BB):Calls Tryz.prog 168 #[.agg (bv x)] w (GH (-x) w):=by
 refine (Jf (decide (x < 0)) (dg x.natAbs) w (gD _)).mono ?_
 rintro e w' ⟨rfl,hb⟩
 refine ⟨?_,hb⟩
 rw [AB (z:=-x) ?_ (by rw [Int.natAbs_neg])]
 unfold NJ
 rw [oF hx,Bool.eq_iff_iff]
 simp only [Bool.and_eq_true,Bool.not_eq_true',decide_eq_true_eq,decide_eq_false_iff_not]
 omega
end Fx
end Go.Proofs.YtbbhmhihpdmoiaaGreat
