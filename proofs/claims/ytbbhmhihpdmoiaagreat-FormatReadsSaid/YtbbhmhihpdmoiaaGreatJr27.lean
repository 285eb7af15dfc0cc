import Derived.Test.YtbbhmhihpdmoiaaGreatJr05
import Derived.Test.YtbbhmhihpdmoiaaGreatJr26
set_option linter.unusedVariables false
set_option linter.unusedSimpArgs false
set_option maxRecDepth 100000
set_option maxHeartbeats 32000000
namespace Go.Proofs.YtbbhmhihpdmoiaaGreat
namespace Fx
open Go Go.RowKit
def wU (a b:fH):Prop:=a.w=b.w∧a.h=b.h∧a.jK=b.jK∧a.os.map jC=b.os.map jC
instance (a b:fH):Decidable (wU a b):=by unfold wU;infer_instance
structure CR (a b:fH) (w V:World):Prop where
 sa:gF w.heap.size a V
 sb:gF (w.heap.size + 1) b V
 oa:fM V a.oo a.os
 ob:fM V b.oo b.os
 jI:Below w.heap.size w V
theorem CR.up {a b:fH} {w V X:World} (i:CR a b w V) (hb:Below V.heap.size V X):CR a b w X :=
 ⟨i.sa.below hb,i.sb.below hb,i.oa.below hb,i.ob.below hb,dY i.jI hb⟩
theorem CR.new {a b:fH} {w:World} (h:fM w a.oo a.os) (h2:fM w b.oo b.os):CR a b w ((w.alloc (.cells (fZ a) 28)).alloc (.cells (fZ b) 28)):=by
 have hB:Below w.heap.size w ((w.alloc (.cells (fZ a) 28)).alloc (.cells (fZ b) 28)):=by go_grown
 refine ⟨dW (gF.new w a),?_,h.below hB,h2.below hB,hB⟩
 have:=gF.new (w.alloc (.cells (fZ a) 28)) b
 rw [aR] at this
 exact this
end Fx
namespace Fx
open Go Go.RowKit
open Pk (form fold BP rd xP MW uP YH Cs nW By zW KH)
abbrev nV (κ:Type):=List Nat→Nat→Option (κ×Nat)
structure Good {κ:Type} (P:nV κ) (F:κ→List Nat) (D:κ→Prop):Prop where
 put:∀ k,D k→∀ l a t,a≤l.length→l.drop a=F k ++ t→P l a=some (k,a + (F k).length)
 get:∀ l a k b,By l→a≤l.length→P l a=some (k,b)→D k∧l.drop a=F k ++ l.drop b∧b=a + (F k).length∧b≤l.length
 bytes:∀ k,D k→By (F k)
def pU (most:Nat):nV Int:=fun l a=>(rd most (l.drop a)).map fun q=>((q.1:Int),a + q.2)
def pI:nV Int:=fun l a=>(rd nW (l.drop a)).map fun q=>(BP q.1,a + q.2)
def fU (z:Int):List Nat:=form z.toNat
theorem VU {l:List Nat} {a j:Nat} {m:List Nat} (ha:a≤l.length) (h:(l.drop a).take j=m) (hj:j=m.length):l.drop a=m ++ l.drop (a + j)∧a + j≤l.length:=by
 have h1:l.drop a=(l.drop a).take j ++ (l.drop a).drop j:=(List.take_append_drop j _).symm
 rw [h,List.drop_drop] at h1
 refine ⟨h1,?_⟩
 have h2:=congrArg List.length h
 rw [bZ,dD] at h2
 omega
theorem Cq {most:Nat} (hm:most < 18446744073709551616):Good (pU most) fU (fun z=>0≤z∧z≤(most:Int)) where
 put k hk l a t ha h:=by
  unfold pU fU
  rw [h]
  unfold fU
  rw [xP k.toNat most t (by omega) (by omega)]
  simp
  omega
 get l a k b hb ha h:=by
  unfold pU at h
  rw [Option.map_eq_some_iff] at h
  obtain ⟨⟨n,j⟩,hr,e⟩:=h
  simp only [Prod.mk.injEq] at e
  obtain ⟨rfl,rfl⟩:=e
  obtain ⟨h1,h2,h3⟩:=MW (fun c hc=>hb c (List.mem_of_mem_drop hc)) hr
  have hle:n≤most:=by
   rw [uP _ (by unfold nW;omega)] at hr
   cases h0:rd nW (l.drop a) with
   | none=>rw [h0] at hr;simp at hr
   | some q =>
    rw [h0] at hr
    simp at hr
    obtain ⟨hq,e1,_⟩:=hr
    rw [←e1]
    exact hq
  obtain ⟨h4,h5⟩:=VU ha h1 h3
  refine ⟨by omega,?_,?_,h5⟩
  ·unfold fU
   simpa using h4
  ·unfold fU
   simpa using h3
 bytes k hk:=zW (by omega)
theorem PE {n:Nat} (h:n < 18446744073709551616):Num (BP n):=by
 unfold BP Num
 split <;> omega
def lJ {κ μ:Type} (P:nV κ) (Q:nV μ):nV (κ×μ):=fun l a=>match P l a with
 | none=>none
 | some (k,b)=>match Q l b with
  | none=>none
  | some (m,c)=>some ((k,m),c)
theorem FY {l m t:List Nat} {a:Nat} (ha:a≤l.length) (h:l.drop a=m ++ t):l.drop (a + m.length)=t∧a + m.length≤l.length:=by
 refine ⟨by rw [←List.drop_drop,h];simp,?_⟩
 have:=congrArg List.length h
 rw [dD,aY] at this
 omega
theorem By.app {a b:List Nat} (h:By a) (k:By b):By (a ++ b):=fun c hc=>by
 rcases bU.1 hc with hc | hc
 ·exact h c hc
 ·exact k c hc
theorem Good.seq {κ μ:Type} {P:nV κ} {Q:nV μ} {F:κ→List Nat} {G:μ→List Nat} {D:κ→Prop} {E:μ→Prop} (h:Good P F D) (k:Good Q G E):Good (lJ P Q) (fun x=>F x.1 ++ G x.2) (fun x=>D x.1∧E x.2) where
 put x hx l a t ha hd:=by
  rw [dE] at hd
  have h1:=h.put x.1 hx.1 l a _ ha hd
  obtain ⟨h2,h3⟩:=FY ha hd
  have h4:=k.put x.2 hx.2 l _ t h3 h2
  unfold lJ
  rw [h1]
  dsimp only
  rw [h4]
  simp [Nat.add_assoc]
 get l a x b hb ha hd:=by
  unfold lJ at hd
  cases h1:P l a with
  | none=>rw [h1] at hd;cases hd
  | some q =>
   obtain ⟨k1,b1⟩:=q
   rw [h1] at hd
   dsimp only at hd
   cases h2:Q l b1 with
   | none=>rw [h2] at hd;cases hd
   | some q2 =>
    obtain ⟨k2,b2⟩:=q2
    rw [h2] at hd
    cases hd
    obtain ⟨d1,e1,f1,g1⟩:=h.get l a k1 b1 hb ha h1
    obtain ⟨d2,e2,f2,g2⟩:=k.get l b1 k2 b hb g1 h2
    exact ⟨⟨d1,d2⟩,by rw [e1,e2,dE],by simp only [aY];omega,g2⟩
 bytes x hx:=By.app (h.bytes _ hx.1) (k.bytes _ hx.2)
def gK {κ:Type} (P:nV κ):Nat→nV (List κ)
 | 0=>fun _ a=>some ([],a)
 | n + 1=>fun l a=>match P l a with
  | none=>none
  | some (k,b)=>match gK P n l b with
   | none=>none
   | some (ks,c)=>some (k :: ks,c)
theorem Good.list {κ:Type} {P:nV κ} {F:κ→List Nat} {D:κ→Prop} (h:Good P F D):∀ n,Good (gK P n) (fun ks=>ks.flatMap F) (fun ks=>ks.length=n∧∀ k∈ks,D k)
 | 0 =>
  { put := fun ks hk l a t ha hd => by
      have : ks=[]:=List.length_eq_zero_iff.1 hk.1
      subst this
      rfl
    get:=fun l a ks b hb ha hd=>by
      unfold gK at hd
      cases hd
      exact ⟨⟨rfl,fun k hk=>by simp at hk⟩,by simp,by simp,ha⟩
    bytes:=fun ks hk=>by
      have : ks=[]:=List.length_eq_zero_iff.1 hk.1
      subst this
      intro c hc
      simp at hc }
 | n + 1 =>
  { put := fun ks hk l a t ha hd => by
      cases ks with
      | nil=>simp at hk
      | cons x xs =>
        rw [List.flatMap_cons,dE] at hd
        have h1:=h.put x (hk.2 x (by simp)) l a _ ha hd
        obtain ⟨h2,h3⟩:=FY ha hd
        have h4:=(Good.list h n).put xs ⟨by simpa using hk.1,fun k hk'=>hk.2 k (by simp [hk'])⟩ l _ t h3 h2
        unfold gK
        rw [h1]
        dsimp only
        rw [h4]
        simp [Nat.add_assoc]
    get:=fun l a ks b hb ha hd=>by
      unfold gK at hd
      cases h1:P l a with
      | none=>rw [h1] at hd;cases hd
      | some q =>
        obtain ⟨k1,b1⟩:=q
        rw [h1] at hd
        dsimp only at hd
        cases h2:gK P n l b1 with
        | none=>rw [h2] at hd;cases hd
        | some q2 =>
          obtain ⟨k2,b2⟩:=q2
          rw [h2] at hd
          cases hd
          obtain ⟨d1,e1,f1,g1⟩:=h.get l a k1 b1 hb ha h1
          obtain ⟨d2,e2,f2,g2⟩:=(Good.list h n).get l b1 k2 b hb g1 h2
          refine ⟨⟨by simpa using d2.1,fun k hk=>?_⟩,by rw [List.flatMap_cons,e1,e2,dE],by simp only [List.flatMap_cons,aY];omega,g2⟩
          rcases List.mem_cons.1 hk with rfl | hk
          · exact d1
          · exact d2.2 k hk
    bytes:=fun ks hk=>by
      intro c hc
      obtain ⟨x,hx,hc⟩:=List.mem_flatMap.1 hc
      exact h.bytes x (hk.2 x hx) c hc }
def jA {κ:Type} (most:Nat) (P:nV κ):nV (List κ):=fun l a=>match pU most l a with
 | none=>none
 | some (n,b)=>gK P n.toNat l b
def QZ {κ:Type} (F:κ→List Nat) (ks:List κ):List Nat:=fU ks.length ++ ks.flatMap F
theorem Good.many {κ:Type} {P:nV κ} {F:κ→List Nat} {D:κ→Prop} (h:Good P F D) {most:Nat} (hm:most < 18446744073709551616):Good (jA most P) (QZ F) (fun ks=>ks.length≤most∧∀ k∈ks,D k) where
 put ks hk l a t ha hd:=by
  unfold QZ at hd ⊢
  rw [dE] at hd
  have h1:=(Cq hm).put (ks.length:Int) (by omega) l a _ ha hd
  obtain ⟨h2,h3⟩:=FY ha hd
  have h4:=(h.list ks.length).put ks ⟨rfl,hk.2⟩ l _ t h3 h2
  unfold jA
  rw [h1]
  dsimp only
  rw [Int.toNat_natCast,h4]
  simp [Nat.add_assoc]
 get l a ks b hb ha hd:=by
  unfold jA at hd
  cases h1:pU most l a with
  | none=>rw [h1] at hd;cases hd
  | some q =>
   obtain ⟨k1,b1⟩:=q
   rw [h1] at hd
   dsimp only at hd
   obtain ⟨d1,e1,f1,g1⟩:=(Cq hm).get l a k1 b1 hb ha h1
   obtain ⟨d2,e2,f2,g2⟩:=(h.list k1.toNat).get l b1 ks b hb g1 hd
   have hk:k1=(ks.length:Int):=by rw [d2.1];omega
   subst hk
   exact ⟨⟨by omega,d2.2⟩,by unfold QZ;rw [e1,e2,dE],by unfold QZ;rw [aY];omega,g2⟩
 bytes ks hk:=By.app ((Cq hm).bytes _ (by omega)) ((h.list ks.length).bytes ks ⟨rfl,hk.2⟩)
def JK {κ μ:Type} (f:κ→μ) (P:nV κ):nV μ:=fun l a=>(P l a).map fun q=>(f q.1,q.2)
theorem Good.map {κ μ:Type} {P:nV κ} {F:κ→List Nat} {D:κ→Prop} (h:Good P F D) (f:κ→μ) (g:μ→κ) (hf:∀ y,f (g y)=y) (hg:∀ x,g (f x)=x):Good (JK f P) (fun y=>F (g y)) (fun y=>D (g y)) where
 put y hy l a t ha hd:=by
  unfold JK
  rw [h.put (g y) hy l a t ha hd]
  simp [hf]
 get l a y b hb ha hd:=by
  unfold JK at hd
  rw [Option.map_eq_some_iff] at hd
  obtain ⟨⟨k,c⟩,h1,e⟩:=hd
  simp only [Prod.mk.injEq] at e
  obtain ⟨rfl,rfl⟩:=e
  rw [hg]
  exact h.get l a k c hb ha h1
 bytes y hy:=h.bytes _ hy
def IJ (q:Int×Int×Int×Int):iH:=⟨q.1,q.2.1,q.2.2.1,q.2.2.2⟩
def EX:nV (List Int):=gK pI 16
def nI:nV (List Int):=gK pI 3
def tH:nV iH:=JK IJ (lJ (pU 63) (lJ (pU 63) (lJ (pU 63) (pU 4294967295))))
def nJ:nV (Int×List Int×List (List Int)×List iH):=lJ (pU 65535) (lJ EX (lJ (jA 64 nI) (jA 64 tH)))
def jV:nV (Int×Int×List Int):=lJ (pU 64) (lJ (pU 64) EX)
abbrev KX:=Int×Int×List Int×List (Int×List Int×List (List Int)×List iH)
def LG:nV KX:=lJ (pU 64) (lJ (pU 64) (lJ EX (jA 16 nJ)))
def wE (s:fH):KX:=(s.w,s.h,s.jK,s.os.map jC)
theorem DT (a b:fH):wU a b↔wE a=wE b:=by
 unfold wU wE
 simp [Prod.mk.injEq]
def Dl (n:Nat) (m:List Int):Prop:=m.length=n∧∀ z∈m,Num z
theorem Qo (l:List Nat) (a:Nat):LG l a=match jV l a with
  | none=>none
  | some (k,b)=>match jA 16 nJ l b with
   | none=>none
   | some (os,c)=>some ((k.1,k.2.1,k.2.2,os),c):=by
 unfold LG jV lJ
 cases pU 64 l a with
 | none=>rfl
 | some q =>
  dsimp only
  cases pU 64 l q.2 with
  | none=>rfl
  | some q2 =>
   dsimp only
   cases EX l q2.2 with
   | none=>rfl
   | some q3=>
    dsimp only
    cases jA 16 nJ l q3.2 with
    | none=>rfl
    | some q4=>rfl
end Fx
namespace Fx
open Go Go.RowKit
section
variable {α:Type} {t:TypeId} {n:Nat} {f:α→List Value}
def iD (t:TypeId) (n:Nat) (f:α→List Value) (W:World) (B:Nat) (v:Value) (l:List α):Prop:=W.ownsRow B t n v l.length (l.flatMap f)
theorem iD.below {w W:World} {B:Nat} {v:Value} {l:List α} (h:Below w.heap.size w W) (s:iD t n f w B v l):iD t n f W B v l:=by
 obtain ⟨h1,h2⟩:=s
 refine ⟨h1,?_⟩
 rcases h2 with h2 | ⟨g,cap,cur,e,hb,hg,h3⟩
 ·exact Or.inl h2
 ·exact Or.inr ⟨g,cap,cur,e,hb,dV h hg,h3⟩
theorem iD.kept {B C:Nat} {v:Value} {l:List α} {W X:World} (s:iD t n f W C v l) (k:Kept B W X):iD t n f X C v l:=by
 obtain ⟨h1,h2⟩:=s
 refine ⟨h1,?_⟩
 rcases h2 with h2 | ⟨g,cap,cur,e,hb,hg,h3⟩
 ·exact .inl h2
 ·exact .inr ⟨g,cap,cur,e,hb,k.cells hg,h3⟩
theorem iD.blk {w:World} {B:Nat} {v:Value} {l:List α} (s:iD t n f w B v l):∀ k,v.ownBlock=some k→B≤k:=by
 intro k hk
 obtain ⟨h1,h2⟩:=s
 rcases h2 with ⟨rfl,_⟩ | ⟨g,cap,cur,rfl,hb,_⟩
 ·cases hk
 ·cases hk
  exact hb
theorem iD.lt {w:World} {B:Nat} {v:Value} {l:List α} (s:iD t n f w B v l):∀ k,v.ownBlock=some k→k < w.heap.size:=by
 intro k hk
 obtain ⟨h1,h2⟩:=s
 rcases h2 with ⟨rfl,_⟩ | ⟨g,cap,cur,rfl,hb,hg,_⟩
 ·cases hk
 ·cases hk
  exact (aC.1 hg).1
theorem iD.row {w:World} {B:Nat} {v:Value} {l:List α} (s:iD t n f w B v l):∀ k,v.ownBlock=some k→∃ cur,w.heap[k]?=some (.cells cur t (0,0)):=by
 intro k hk
 obtain ⟨h1,h2⟩:=s
 rcases h2 with ⟨rfl,_⟩ | ⟨g,cap,cur,rfl,hb,hg,_⟩
 ·cases hk
 ·cases hk
  exact ⟨cur,hg⟩
theorem iD.base {w:World} {B C:Nat} {v:Value} {l:List α} (hc:C≤B) (s:iD t n f w B v l):iD t n f w C v l:=by
 obtain ⟨h1,h2⟩:=s
 refine ⟨h1,?_⟩
 rcases h2 with h2 | ⟨g,cap,cur,e,hb,hg,h3⟩
 ·exact Or.inl h2
 ·exact Or.inr ⟨g,cap,cur,e,bH hc hb,hg,h3⟩
theorem iD.kH {B m j:Nat} {v u:Value} {l:List α} {W:World} (s:iD t n f W B v l) (hm:v.ownBlock≠some m):iD t n f (W.setCell ⟨m,j,none⟩ u) B v l:=by
 obtain ⟨h1,h2⟩:=s
 refine ⟨h1,?_⟩
 rcases h2 with h2 | ⟨g,cap,cur,e,hb,hg,h3⟩
 ·exact .inl h2
 ·subst e
  exact .inr ⟨g,cap,cur,rfl,hb,by rw [aH _ _ _ _ (by intro e;exact hm (by show some g=some m;rw [show g=m from e]))];exact hg,h3⟩
theorem iD.grown {B:Nat} {v:Value} {l:List α} {W X:World} {row:Option Nat} (s:iD t n f W B v l) (hg:W.grownBy X row) (hr:∀ k,row=some k→v.ownBlock≠some k):iD t n f X B v l:=by
 obtain ⟨h1,h2⟩:=s
 refine ⟨h1,?_⟩
 rcases h2 with h2 | ⟨g,cap,cur,e,hb,hgg,h3⟩
 ·exact .inl h2
 ·subst e
  exact .inr ⟨g,cap,cur,rfl,hb,by rw [hg.block g (aC.1 hgg).1 (fun e=>hr g e.symm rfl)];exact hgg,h3⟩
theorem iD.nil (t:TypeId) (n:Nat) (f:α→List Value) (W:World) (B:Nat):iD t n f W B (.slice none 0 0) []:=⟨by simp,.inl ⟨rfl,rfl⟩⟩
theorem KI {l:List α} (hl:∀ x∈l,(f x).length=n):∀ {k:Nat} {x:α},l[k]?=some x→∀ j v,(f x)[j]?=some v→(l.flatMap f)[k * n + j]?=some v:=by
 induction l with
 | nil=>intro k x h;simp at h
 | cons y tl ih =>
  intro k x h j v hv
  have hy:=hl y (by simp)
  rw [List.flatMap_cons]
  cases k with
  | zero =>
   simp at h
   subst h
   rw [Nat.zero_mul,bB,dI (bD.1 hv).1]
   exact hv
  | succ k =>
   have hk:(k + 1) * n + j - n=k * n + j:=by rw [Nat.add_mul];omega
   rw [List.getElem?_append_right (by rw [hy,Nat.add_mul];omega),hy,hk]
   exact ih (fun z hz=>hl z (by simp [hz])) (by simpa using h) j v hv
theorem DZ {l:List α} (hl:∀ x∈l,(f x).length=n):(l.flatMap f).length=l.length * n:=by
 induction l with
 | nil=>simp
 | cons y tl ih =>
  rw [List.flatMap_cons,aY,hl y (by simp),ih (fun z hz=>hl z (by simp [hz])),bK,Nat.add_mul]
  omega
structure kT (t:TypeId) (n:Nat) (f:α→List Value) (W:World) (B:Nat) (o:Option Addr) (l:List α):Prop where
 at_:∀ k z,l[k]?=some z→∃ g cur,o=some ⟨g,0,none⟩∧B≤g∧W.heap[g]?=some (.cells cur t (0,0))∧l.length * n≤cur.size∧W.rangeAt g (0 + k * n) (f z)
theorem iD.form {W:World} {B:Nat} {v:Value} {l:List α} (s:iD t n f W B v l) (hl:∀ x∈l,(f x).length=n):∃ o cap,v=.slice o l.length cap∧LD o l.length cap∧kT t n f W B o l:=by
 obtain ⟨h1,h2⟩:=s
 rcases h2 with ⟨rfl,h0⟩ | ⟨g,cap,cur,rfl,hb,hg,hle,hm,hsz,htk⟩
 ·refine ⟨none,0,by rw [h0],⟨⟨by omega,by omega⟩,fun _=>rfl⟩,⟨fun k z hk=>?_⟩⟩
  have:=(bD.1 hk).1
  omega
 ·unfold maxLen at hm
  refine ⟨some ⟨g,0,none⟩,cap,rfl,⟨⟨hle,by omega⟩,fun h=>by cases h⟩,⟨fun k z hk=>⟨g,cur,rfl,hb,hg,by rw [hsz];exact Nat.mul_le_mul_right n hle,?_⟩⟩⟩
  intro j u hj
  have hf:=KI hl hk j u hj
  rw [aF _ _ _ _ _ _ hg,bB]
  rw [←htk,List.getElem?_take] at hf
  split at hf
  ·simpa using hf
  ·cases hf
theorem kT.list {W:World} {B:Nat} {o:Option Addr} {l:List α} (s:kT t n f W B o l):nR (fun b j z=>W.rangeAt b j (f z)) n o l:=fun k z hk=>by
 obtain ⟨g,cur,e,_,_,_,h⟩:=s.at_ k z hk
 exact ⟨g,0,e,h⟩
theorem Qa {W:World} {ad:Addr} {l:List α} (hn:0 < n) (hs:nR (fun b j z=>W.rangeAt b j (f z)) n (some ad) l) (hl:∀ x∈l,(f x).length=n):∀ j u,(l.flatMap f)[j]?=some u→W.cell? (ad.add j)=some u:=by
 intro j u hj
 have hjl:j < l.length * n:=by
  rw [←DZ hl]
  exact (bD.1 hj).1
 have hk:j / n < l.length:=(Nat.div_lt_iff_lt_mul hn).2 hjl
 obtain ⟨z,hz⟩:∃ z,l[j / n]?=some z:=⟨_,aJ hk⟩
 obtain ⟨b,off,e,hr⟩:=hs _ z hz
 cases e
 have hzl:=hl z (bJ hz)
 have hm:j % n < (f z).length:=by rw [hzl];exact cK _ hn
 have h1:=KI hl hz (j % n) _ (aJ hm)
 have hjj:j / n * n + j % n=j:=by rw [bN];exact Nat.div_add_mod j n
 rw [hjj,hj] at h1
 have h2:=hr (j % n) _ (aJ hm)
 rw [Nat.add_assoc,hjj,←h1] at h2
 rw [Addr.add_lit]
 exact h2
structure qI (t:TypeId) (n bytes:Nat):Prop where
 pos:0 < n
 few:bytes≤1000
 get:∃ i z,Tryz.prog.info? t=some i∧i.zero=some z∧i.size=n∧i.bytes=bytes∧z.cells.size=n
theorem qI.of {t:TypeId} {n bytes:Nat} (hp:0 < n) (hf:bytes≤1000) (hm:(Tryz.prog.info? t).map (fun i=>(i.zero.map (fun z=>z.cells.size),i.size,i.bytes))=some (some n,n,bytes)):qI t n bytes:=by
 refine ⟨hp,hf,?_⟩
 cases hi:Tryz.prog.info? t with
 | none=>rw [hi] at hm;cases hm
 | some i =>
  rw [hi] at hm
  simp only [Option.map_some,Option.some.injEq,Prod.mk.injEq] at hm
  obtain ⟨hz,hs,hb⟩:=hm
  cases hzz:i.zero with
  | none=>rw [hzz] at hz;cases hz
  | some z =>
   rw [hzz] at hz
   exact ⟨i,z,rfl,hzz,hs,hb,by simpa using hz⟩
theorem ZO {bytes:Nat} (hi:qI t n bytes) (ts ty:TypeId) (hu:Tryz.prog.underlying ts=some (.slice t)) (W:World) (B:Nat) (v:Value) (L M:List α) (hB:B≤W.heap.size) (hown:iD t n f W B v L) (ox:Option Addr) (c:Nat)
  (hc:ox=none→c=0) (hsrc:nR (fun b j z=>W.rangeAt b j (f z)) n ox M) (hlen:∀ z∈M,(f z).length=n) (hone:∀ z∈M,∀ u∈f z,u.oneCell'=true) (hL:L.length + M.length≤1000000) :
  ∃ v' X,(Builtin.append_ #[ts,ts] ty #[v,.slice ox M.length c]).run Tryz.prog W=.ok v' X∧iD t n f X B v' (L ++ M)∧W.grownBy X v.ownBlock:=by
 obtain ⟨i,z,h2,h3,h4,h5,h6⟩:=hi.get
 cases ox with
 | none =>
  have hM:M=[]:=by
   cases M with
   | nil=>rfl
   | cons y tl =>
    obtain ⟨b,off,e,_⟩:=hsrc 0 y rfl
    cases e
  subst hM
  rw [hc rfl]
  refine ⟨v,W,run_append_owned_none (P:=Tryz.prog) (w:=W) B ts ty t i n hu h2 v L.length (L.flatMap f) hown,by rw [List.append_nil];exact hown,⟨rfl,rfl,rfl,aB _,fun _ _ _=>rfl⟩⟩
 | some ad =>
  have hb:(L.length + M.length) * bytes≤1000000 * 1000:=Nat.mul_le_mul hL hi.few
  obtain ⟨v',X,hrun,r1,r2,r3⟩:=run_append_own (P:=Tryz.prog) W B ts ty t i z n bytes hu h2 h3 h4 h5 h6 hi.pos v L.length (L.flatMap f) hown ad M.length c (M.flatMap f) (DZ hlen) (Qa hi.pos hsrc hlen)
   (fun u hu=>by obtain ⟨z,hz,hzu⟩:=List.mem_flatMap.1 hu;exact hone z hz u hzu) (by unfold maxLen;omega) (by omega) hB
  exact ⟨v',X,hrun,by unfold iD;rw [aY,List.flatMap_append];exact r1,r2⟩
theorem AV {bytes:Nat} (hi:qI t n bytes) {ops:Array Oper} {rest:List Oper} {o:Oper} {a:Act} {Q:Exit→Act→World→Prop} {W:World} (hgd:o.guard=none) (sx x:Operand) (ts:TypeId)
  (ho:o.op=.call { callee:=.builtin .append,args:=#[sx,x],argTypes:=#[ts,ts] }) (hu:Tryz.prog.underlying ts=some (.slice t)) (B:Nat) (v:Value) (L M:List α) (hs:a.eval sx=v) (hB:B≤W.heap.size) (hown:iD t n f W B v L)
  (ox:Option Addr) (c:Nat) (hx:a.eval x=.slice ox M.length c) (hc:ox=none→c=0) (hsrc:nR (fun b j z=>W.rangeAt b j (f z)) n ox M) (hlen:∀ z∈M,(f z).length=n) (hone:∀ z∈M,∀ u∈f z,u.oneCell'=true) (hL:L.length + M.length≤1000000)
  (h:∀ v' X,iD t n f X B v' (L ++ M)→W.grownBy X v.ownBlock→Hid (wpList Tryz.prog ops Q rest (a.put o.dst v') X)) :
  wpList Tryz.prog ops Q (o :: rest) a W:=by
 obtain ⟨v',X,hrun,r1,r2⟩:=ZO hi ts o.type hu W B v L M hB hown ox c hc hsrc hlen hone hL
 refine wpList_plain hgd fun K hK'=>?_
 unfold Oper.wp
 simp [execOp,ho,resolve,invoke,builtin,hs,hx,hrun,Result.andThen]
 exact hK' _ _ (h v' X r1 r2).out
theorem pW {W:World} {g:Nat} {z:α} (h:W.heap[g]?=some (.cells (f z).toArray t (0,0))):nR (fun b j z=>W.rangeAt b j (f z)) n (some ⟨g,0,none⟩) [z]:=fun k y hk=>by
 have h0:k=0:=by have:=(bD.1 hk).1;simp at this;omega
 subst h0
 simp at hk
 subst hk
 refine ⟨g,0,rfl,fun j u hj=>?_⟩
 rw [aF _ _ _ _ _ _ h]
 simpa using hj
theorem EN {bytes:Nat} (hi:qI t n bytes) (hm:n≤1000) (ts:TypeId) (hu:Tryz.prog.underlying ts=some (.slice t)) (W:World) (cs:Array Value) (hc:cs.size=n) :
  (Instr.buildSlice ts 1 #[(0,.agg cs)]).run Tryz.prog W=.ok (.slice (some ⟨W.heap.size,0,none⟩) 1 1) (W.alloc (.cells cs t)):=by
 obtain ⟨i,z,h2,h3,h4,h5,h6⟩:=hi.get
 refine run_buildSlice W ts t 1 _ cs i z hu h2 h3 (by rw [h4];omega) (by rw [h4];have:=hi.pos;omega) ?_
 rw [h4]
 have:=Great.fill_whole hi.pos [.agg cs] ((Array.range (1 * n)).map (z.cells[· % z.cells.size]!)) (fun v hv=>by simp at hv;subst hv;exact hc) (by simp)
 simpa [Value.cells] using this
theorem lU {bytes:Nat} (hi:qI t n bytes) (hm:n≤1000) {ops:Array Oper} {rest:List Oper} {o:Oper} {a:Act} {Q:Exit→Act→World→Prop} {W:World} (hgd:o.guard=none) (x:Operand) (ts:TypeId)
  (ho:o.op=.buildSlice ts 1 #[(0,x)]) (hu:Tryz.prog.underlying ts=some (.slice t)) (cs:Array Value) (hx:a.eval x=.agg cs) (hc:cs.size=n)
  (h:wpList Tryz.prog ops Q rest (a.put o.dst (.slice (some ⟨W.heap.size,0,none⟩) 1 1)) (W.alloc (.cells cs t))) :
  wpList Tryz.prog ops Q (o :: rest) a W:=by
 have hrun:=EN hi hm ts hu W cs hc
 refine wpList_plain hgd fun K hK'=>?_
 unfold Oper.wp
 simp [execOp,ho,hx,hrun,Result.andThen]
 exact hK' _ _ h
end
theorem yB (x:List Int):∀ u∈x.map encI,u.oneCell'=true:=fun u hu=>by
 obtain ⟨z,_,rfl⟩:=List.mem_map.1 hu
 rfl
theorem uM (x:iH):∀ u∈fV x,u.oneCell'=true:=fun u hu=>by
 simp only [fV,List.mem_cons,List.not_mem_nil,or_false] at hu
 rcases hu with rfl | rfl | rfl | rfl <;> rfl
theorem oQ (x:fE):∀ u∈eF x,u.oneCell'=true:=fun v hv=>by
 simp only [eF,List.mem_cons,bU,List.mem_map,List.not_mem_nil,or_false] at hv
 rcases hv with rfl | ⟨z,_,rfl⟩ | rfl | rfl <;> rfl
theorem FL:qI 85 3 24:=qI.of (by omega) (by omega) (by kernel_rfl)
theorem wG:qI 87 4 32:=qI.of (by omega) (by omega) (by kernel_rfl)
theorem FM:qI 73 19 184:=qI.of (by omega) (by omega) (by kernel_rfl)
theorem gN.src {W:World} {o:Option Addr} {l:List (List Int)} (h:gN W o l):nR (fun b j z=>W.rangeAt b j (z.map encI)) 3 o l:=fun k z hk=>by
 obtain ⟨b,off,e,h1,_⟩:=h k z hk
 exact ⟨b,off,e,h1⟩
theorem iL.src {W:World} {o:Option Addr} {l:List iH} (h:iL W o l):nR (fun b j z=>W.rangeAt b j (fV z)) 4 o l:=fun k z hk=>by
 obtain ⟨b,off,e,h1,_⟩:=h k z hk
 exact ⟨b,off,e,h1⟩
theorem gN.wf {W:World} {o:Option Addr} {l:List (List Int)} (h:gN W o l):∀ x∈l,jX x:=fun x hx=>by
 obtain ⟨k,hk⟩:=List.getElem?_of_mem hx
 obtain ⟨_,_,_,_,hw⟩:=h k x hk
 exact hw
theorem iL.wf {W:World} {o:Option Addr} {l:List iH} (h:iL W o l):∀ x∈l,mX x:=fun x hx=>by
 obtain ⟨k,hk⟩:=List.getElem?_of_mem hx
 obtain ⟨_,_,_,_,hw⟩:=h k x hk
 exact hw
theorem kT.wT {W:World} {B:Nat} {o:Option Addr} {l:List (List Int)} (s:kT 85 3 (fun x=>x.map encI) W B o l) (hw:∀ x∈l,jX x):gN W o l:=fun k z hk=>by
 obtain ⟨g,cur,e,_,_,_,h⟩:=s.at_ k z hk
 exact ⟨g,0,e,h,hw z (bJ hk)⟩
theorem kT.IG {W:World} {B:Nat} {o:Option Addr} {l:List iH} (s:kT 87 4 fV W B o l) (hw:∀ x∈l,mX x):iL W o l:=fun k z hk=>by
 obtain ⟨g,cur,e,_,_,_,h⟩:=s.at_ k z hk
 exact ⟨g,0,e,h,hw z (bJ hk)⟩
end Fx
namespace Fx
open Go Go.RowKit Wm
def BM (k:Nat) (m:List Int):Prop:=m.length=16∧∀ p,p < k→-67108864≤m.getD p 0∧m.getD p 0≤67108864
def BV (k:Nat) (v:List Int):Prop:=v.length=4∧∀ p,p < k→-1073741824≤v.getD p 0∧v.getD p 0≤1073741824
theorem uQ {a b:Int} (a0:-67108864≤a∧a≤67108864) (b0:-1073741824≤b∧b≤1073741824):-72057594037927936≤a * b∧a * b≤72057594037927936:=by
 have h:a.natAbs * b.natAbs≤67108864 * 1073741824:=Nat.mul_le_mul (by omega) (by omega)
 have e:=Int.natAbs_mul a b
 omega
theorem PY {m v:List Int} (hm:BM 16 m) (hv:BV 4 v) (r:Nat) (hr:r < 4):-4398046511105≤pq (rowOf m r) v∧pq (rowOf m r) v≤4398046511104:=by
 have h0:=uQ (hm.2 (r * 4) (by omega)) (hv.2 0 (by omega))
 have h1:=uQ (hm.2 (r * 4 + 1) (by omega)) (hv.2 1 (by omega))
 have h2:=uQ (hm.2 (r * 4 + 2) (by omega)) (hv.2 2 (by omega))
 have h3:=uQ (hm.2 (r * 4 + 3) (by omega)) (hv.2 3 (by omega))
 have e:dot (rowOf m r) v=m.getD (r * 4) 0 * v.getD 0 0 + m.getD (r * 4 + 1) 0 * v.getD 1 0 + m.getD (r * 4 + 2) 0 * v.getD 2 0 + m.getD (r * 4 + 3) 0 * v.getD 3 0:=rfl
 unfold pq
 rw [e]
 omega
theorem Dz {m v:List Int} (hm:BM 16 m) (hv:BV 4 v):sI m v=some (kM m v):=by
 unfold sI
 rw [aT]
 refine ⟨nA.2 fun j hj=>?_,nA.2 fun j hj=>?_,nA.2 fun j hj=>?_⟩
 ·have:=hm.2 j hj;omega
 ·have:=hv.2 j hj;omega
 ·have hd:j=0∨j=1∨j=2∨j=3:=by omega
  rcases hd with rfl | rfl | rfl | rfl
  ·have:=PY hm hv 0 (by omega)
   show (0:Int)≤_∧-4611686018427387904≤pq (rowOf m 0) v∧pq (rowOf m 0) v≤4611686018427387904
   omega
  ·have:=PY hm hv 1 (by omega)
   show (0:Int)≤_∧-4611686018427387904≤pq (rowOf m 1) v∧pq (rowOf m 1) v≤4611686018427387904
   omega
  ·have:=PY hm hv 2 (by omega)
   show (0:Int)≤_∧-4611686018427387904≤pq (rowOf m 2) v∧pq (rowOf m 2) v≤4611686018427387904
   omega
  ·have:=PY hm hv 3 (by omega)
   show (0:Int)≤_∧-4611686018427387904≤pq (rowOf m 3) v∧pq (rowOf m 3) v≤4611686018427387904
   omega
theorem BM.Wi {m:List Int} (hl:m.length=16) {z:Int} (hz:z≤67108864) (h:wB z m 16=true):BM 16 m:=⟨hl,fun p hp=>by
 have:=nA.1 h p hp
 omega⟩
theorem Qw {a b:List Int} (la:a.length=16) (lb:b.length=16) (ha:wB 16777216 a 16=true) (hb:wB 16777216 b 16=true):∃ m,oU a b=some m∧m.length=16:=by
 have hA:=BM.Wi la (by omega) ha
 have key:∀ r,r < 4→(oK a b r).isSome=true:=by
  intro r hr
  unfold oK
  have hv:BV 4 (rowOf (tr b) r):=by
   refine ⟨rfl,fun p hp=>?_⟩
   have e:(rowOf (tr b) r).getD p 0=(tr b).getD (r * 4 + p) 0:=by
    obtain rfl | rfl | rfl | rfl:p=0∨p=1∨p=2∨p=3:=by omega
    all_goals rfl
   have e2:(tr b).getD (r * 4 + p) 0=b.getD ((r * 4 + p) % 4 * 4 + (r * 4 + p) / 4) 0:=by
    unfold tr
    rw [aS,cO,List.getElem?_range (by omega)]
    rfl
   have:=nA.1 hb ((r * 4 + p) % 4 * 4 + (r * 4 + p) / 4) (by omega)
   rw [e,e2]
   omega
  rw [Dz hA hv]
  rfl
 have hm:oU a b=some (tr (EB a b)):=by
  unfold oU
  rw [aT ⟨key 0 (by omega),key 1 (by omega),key 2 (by omega),key 3 (by omega)⟩]
 exact ⟨_,hm,uX hm⟩
theorem Dw {s:fH} {k:Nat} {x:fE} (hx:s.os[k]?=some x):mI s (k:Int)=oU s.jK x.m:=by
 unfold mI
 rw [aT (by have:=(bD.1 hx).1;omega)]
 simp [hx]
theorem Bi {s:fH} {x:fE} {k:Nat} (hs:jE s) (hw:kD x) (hx:s.os[k]?=some x) (hc:wB 16777216 s.jK 16=true) (h5:vF s x k=true):wF s k=zI s x k:=by
 obtain ⟨m,hm,_⟩:=Qw hs.len hw.len hc h5
 unfold wF zI
 rw [Dw hx,hm]
 rfl
end Fx
namespace Fx
open Go Go.RowKit Go.Shelf
theorem Kept.refl (B:Nat) (W:World):Kept B W W:=⟨rfl,rfl,rfl,aB _,fun _ _ h _=>h⟩
theorem Kept.trans {B:Nat} {X Y Z:World} (h:Kept B X Y) (k:Kept B Y Z):Kept B X Z :=
 ⟨k.os.trans h.os,k.tape.trans h.tape,k.output.trans h.output,bH h.size k.size,fun i o hi hc=>k.block i o (h.block i o hi hc) hc⟩
structure jB (B hi:Nat) (ds:List Deferred) (W:World):Prop where
 each:∀ d∈ds,∃ D,d={ target:=.collected D,args:=#[] }∧B≤D∧D < hi∧W.heap[D]?=some (.deferred (some []))
 apart:ds.Pairwise fun a b=>a.target≠b.target
theorem jB.nil (B hi:Nat) (W:World):jB B hi [] W:=⟨fun d h=>(List.not_mem_nil h).elim,List.Pairwise.nil⟩
theorem jB.cons {B hi D:Nat} {ds:List Deferred} {W:World} (h:jB B hi ds W) (hB:B≤D) (hD:hi≤D) (hd:W.heap[D]?=some (.deferred (some []))):jB B (D + 1) ({ target:=.collected D,args:=#[] } :: ds) W:=by
 refine ⟨fun d hm=>?_,List.pairwise_cons.2 ⟨fun d hm=>?_,h.apart⟩⟩
 ·rcases List.mem_cons.1 hm with rfl | hm
  ·exact ⟨D,rfl,hB,by omega,hd⟩
  ·obtain ⟨E,e,h1,h2,h3⟩:=h.each d hm
   exact ⟨E,e,h1,by omega,h3⟩
 ·obtain ⟨E,rfl,h1,h2,h3⟩:=h.each d hm
  intro e
  have : D=E:=by simpa using e
  omega
theorem jB.keeps {B hi:Nat} {ds:List Deferred} {W X:World} (h:jB B hi ds W) (k:KeepsFrom B W X):jB B hi ds X :=
 ⟨fun d hm=>by
  obtain ⟨E,e,h1,h2,h3⟩:=h.each d hm
  exact ⟨E,e,h1,h2,k.same _ _ h1 h3 rfl⟩,h.apart⟩
theorem jB.kept {B hi C:Nat} {ds:List Deferred} {W X:World} (h:jB B hi ds W) (hc:hi≤C) (k:Kept C W X):jB B hi ds X :=
 ⟨fun d hm=>by
  obtain ⟨E,e,h1,h2,h3⟩:=h.each d hm
  exact ⟨E,e,h1,h2,k.block _ _ h3 (.inl (by omega))⟩,h.apart⟩
theorem jB.wide {B hi hj:Nat} {ds:List Deferred} {W:World} (h:jB B hi ds W) (hc:hi≤hj):jB B hj ds W :=
 ⟨fun d hm=>by
  obtain ⟨E,e,h1,h2,h3⟩:=h.each d hm
  exact ⟨E,e,h1,by omega,h3⟩,h.apart⟩
theorem zF {n:Nat} {P:Program} {fn:Func} {tmps:Array Value} {R:Ending→World→Prop} {B:Nat}:∀ (ds:List Deferred) (hi:Nat) (W:World),jB B hi ds W →
  (∀ X,Kept B W X→LeavesInM Fence.wide n P fn tmps R [] .returning X)→LeavesInM Fence.wide n P fn tmps R ds .returning W
 | [],hi,W,_,h=>h W (Kept.refl _ _)
 | d :: ds,hi,W,hd,h=>by
  obtain ⟨D,rfl,h1,h2,h3⟩:=hd.each d (by simp)
  have hk:Kept B W (W.putObj D (.deferred none)):=Kept.putObj _ h1 h3 rfl
  refine ⟨by simp,.inl ⟨_,_,rfl,run_takeDeferred h3,?_⟩⟩
  refine zF ds hi _ ⟨fun d hm=>?_,(List.pairwise_cons.1 hd.apart).2⟩ (fun X k=>h X (hk.trans k))
  obtain ⟨E,rfl,e1,e2,e3⟩:=hd.each d (by simp [hm])
  refine ⟨E,rfl,e1,e2,(World.putObj_heap_other (fun e=>?_)).trans e3⟩
  have:=(List.pairwise_cons.1 hd.apart).1 _ hm
  exact this (by rw [e])
def RG (s:fH) (r:Nat) (x:fE) (k:Nat):Bool:=if r=0 then qG s x k else if r=1 then vF s x k else if r=2 then wF s k else if r=3 then tN s x k else tL s x k
def KM (r:Nat):Nat:=if r=0 then 118 else if r=1 then 120 else if r=2 then 121 else if r=3 then 123 else 126
def De (A r:Nat):Array Value:=if r=0∨r=2 then #[.pointer (some ⟨A,0,none⟩)] else #[]
def zY (A r:Nat):Value:=.func (.func (KM r)) #[] (De A r)
def RH (A:Nat):Array Value:=#[zY A 0,zY A 1,zY A 2,zY A 3,zY A 4]
theorem NZ {r:Nat} (hr:r < 5):∀ args w,(callFunc (KM r) args).run Tryz.prog w=.ok (.enter (KM r) args) w:=by
 obtain rfl | rfl | rfl | rfl | rfl:r=0∨r=1∨r=2∨r=3∨r=4:=by omega
 ·exact enters_of Tryz.func118 (by kernel_rfl) rfl
 ·exact enters_of Tryz.func120 (by kernel_rfl) rfl
 ·exact enters_of Tryz.func121 (by kernel_rfl) rfl
 ·exact enters_of Tryz.func123 (by kernel_rfl) rfl
 ·exact enters_of Tryz.func126 (by kernel_rfl) rfl
theorem Dc (s:fH) (x:fE) (k r A:Nat) (w:World) (hr:r < 5) (hs:jE s) (ha:gF A s w) (h:fM w s.oo s.os) (hx:s.os[k]?=some x) :
  Calls Tryz.prog (KM r) (#[.int .i64 (k:Int),.agg (eF x).toArray] ++ De A r) w (gH (RG s r x k) w):=by
 obtain ⟨hw,hv,ht⟩:=h.wf hx
 obtain rfl | rfl | rfl | rfl | rfl:r=0∨r=1∨r=2∨r=3∨r=4:=by omega
 ·exact duty1 s x k A w hs ha h hx
 ·exact duty2 s x k w hw
 ·exact duty3 s x k A w hs ha h hx
 ·exact duty4 s x k w hw hv
 ·exact duty5 s x k w hw ht
theorem Db {s:fH} {x:fE} {k r:Nat} (hr:r < 5) (hs:jE s) (hw:kD x) (hx:s.os[k]?=some x) (hc:wB 16777216 s.jK 16=true) (hn:∀ q,4≤q→q < 4 + r→lL s q=none):mW s (4 + r) k = !RG s r x k:=by
 have hb:mW s (4 + r) k = !vE s x k (4 + r):=by unfold mW;rw [hx]
 rw [hb]
 obtain rfl | rfl | rfl | rfl | rfl:r=0∨r=1∨r=2∨r=3∨r=4:=by omega
 ·rfl
 ·rfl
 ·have h5:vF s x k=true:=by
   have:=hn 5 (by omega) (by omega)
   unfold lL at this
   rw [List.find?_eq_none] at this
   have h1:=this k (by simpa using (bD.1 hx).1)
   unfold mW at h1
   rw [hx] at h1
   have e:vE s x k 5=vF s x k:=rfl
   dsimp only at h1
   rw [e] at h1
   simpa using h1
  have : RG s 2 x k=wF s k:=rfl
  rw [this,Bi hs hw hx hc h5]
  rfl
 ·rfl
 ·rfl
def OX (D A:Nat) (W:World):Prop:=W.heap[D]?=some (.cells (RH A) 151 (0,0))
theorem OX.cell {D A r:Nat} {W:World} (h:OX D A W) (hr:r < 5):W.cell? ⟨D,r,none⟩=some (zY A r):=by
 rw [aF _ _ _ _ _ _ h]
 obtain rfl | rfl | rfl | rfl | rfl:r=0∨r=1∨r=2∨r=3∨r=4:=by omega
 all_goals rfl
theorem Df (s:fH) (w:World):Calls Tryz.prog 100 #[.agg (fZ s)] w fun e w' =>
  e=.returned (.slice (some ⟨w.heap.size + 1,0,none⟩) 5 5)∧w'=(w.alloc (.cells (fZ s) 28)).alloc (.cells (RH w.heap.size) 151):=by
 go_enter Tryz.func100,Tryz.ntmps100
 go_wp2_with fail
 go_ret
 exact ⟨rfl,rfl⟩
theorem IP (n:Int) (w:World):Calls Tryz.prog 98 #[.int .i64 n] w fun e w'=>e=.returned (.bool (decide (1≤n) && decide (n≤64)))∧w'=w:=by
 by_cases h1:1≤n
 ·by_cases h2:n≤64
  ·go_enter Tryz.func98,Tryz.ntmps98
   go_wp2_with fail
   go_ret
   exact ⟨by (first | (simp [*];done) | (simp;omega) | (simp [*];omega)),rfl⟩
  ·go_enter Tryz.func98,Tryz.ntmps98
   go_wp2_with fail
   go_ret
   exact ⟨by (first | (simp [*];done) | (simp;omega) | (simp [*];omega)),rfl⟩
 ·go_enter Tryz.func98,Tryz.ntmps98
  go_wp2_with fail
  go_ret
  exact ⟨by (first | (simp [*];done) | (simp;omega) | (simp [*];omega)),rfl⟩
end Fx
end Go.Proofs.YtbbhmhihpdmoiaaGreat
