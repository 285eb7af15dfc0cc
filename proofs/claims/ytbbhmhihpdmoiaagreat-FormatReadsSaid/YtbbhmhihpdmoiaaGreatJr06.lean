import Derived.Test.YtbbhmhihpdmoiaaGreatJr05
set_option linter.unusedVariables false
set_option linter.unusedSimpArgs false
set_option maxRecDepth 100000
set_option maxHeartbeats 32000000
namespace Go.Proofs.YtbbhmhihpdmoiaaGreat
namespace Pk
open Fx (iJ Sound eU fF dO fA oV lQ)
open Go Go.RowKit
structure Sok (o:Option Addr) (c:Nat) (l:List Nat):Prop where
 le:l.length≤c
 up:c≤9223372036854775807
 nil:o=none→c=0
 spot:∀ a,o=some a→a.spot=none
structure PR (o:Option Addr) (c:Nat) (l:List Nat) (p eH:Nat) (lost:Bool) (W:World):Prop where
 row:W.heap[p]?=some (.cells #[.bool true,.bool lost,.slice o l.length c,.int .i64 (eH:Int)] 144 (0,0))
 bs:Bs W o l
 ok:Sok o c l
theorem PR.below {o:Option Addr} {c:Nat} {l:List Nat} {p eH:Nat} {lost:Bool} {W X:World} (h:PR o c l p eH lost W) (hb:Below W.heap.size W X):PR o c l p eH lost X:=⟨dV hb h.row,h.bs.below hb,h.ok⟩
theorem PR.facts {o:Option Addr} {c:Nat} {l:List Nat} {p eH:Nat} {lost:Bool} {W:World} (h:PR o c l p eH lost W) :
  W.cell? ⟨p,0,none⟩=some (.bool true)∧W.cell? ⟨p,1,none⟩=some (.bool lost)∧W.cell? ⟨p,2,none⟩=some (.slice o l.length c)∧W.cell? ⟨p,3,none⟩=some (.int .i64 (eH:Int))∧W.frozen? ⟨p,1,none⟩=false∧W.frozen? ⟨p,3,none⟩=false :=
 ⟨by rw [aF _ _ _ _ _ _ h.row];rfl,by rw [aF _ _ _ _ _ _ h.row];rfl,by rw [aF _ _ _ _ _ _ h.row];rfl,by rw [aF _ _ _ _ _ _ h.row];rfl,dU h.row,dU h.row⟩
theorem PR.lt {o:Option Addr} {c:Nat} {l:List Nat} {p eH:Nat} {lost:Bool} {W:World} (h:PR o c l p eH lost W):p < W.heap.size:=(aC.1 h.row).1
theorem PR.apart {o:Option Addr} {c:Nat} {l:List Nat} {p eH:Nat} {lost:Bool} {W:World} (h:PR o c l p eH lost W):∀ b off,o=some ⟨b,off,none⟩→0 < l.length→b≠p:=by
 rintro b off e hm rfl
 obtain ⟨b',off',e',hc⟩:=h.bs 0 hm
 rw [e] at e'
 cases e'
 rw [aF _ _ _ _ _ _ h.row] at hc
 obtain h0 | h0 | h0 | h0 | h0:off + 0=0∨off + 0=1∨off + 0=2∨off + 0=3∨4≤off + 0:=by omega
 ·rw [h0] at hc
  simp at hc
 ·rw [h0] at hc
  simp at hc
 ·rw [h0] at hc
  simp at hc
 ·rw [h0] at hc
  simp at hc
 ·rw [Array.getElem?_eq_none (by simpa using h0)] at hc
  cases hc
theorem PR.goto {o:Option Addr} {c:Nat} {l:List Nat} {p eH:Nat} {lost:Bool} {W:World} (h:PR o c l p eH lost W) (a:Nat) (z:Int) (hz:z=(a:Int)):PR o c l p a lost (W.setCell ⟨p,3,none⟩ (.int .i64 z)):=by
 subst hz
 exact ⟨aK _ _ 3 _ _ (.int .i64 (a:Int)) h.row,h.bs.set _ h.apart,h.ok⟩
theorem PR.DD {o:Option Addr} {c:Nat} {l:List Nat} {p eH:Nat} {lost:Bool} {W:World} (h:PR o c l p eH lost W):PR o c l p eH true (W.setCell ⟨p,1,none⟩ (.bool true)) :=
 ⟨aK _ _ 1 _ _ (.bool true) h.row,h.bs.set _ h.apart,h.ok⟩
theorem PR.grown {o:Option Addr} {c:Nat} {l:List Nat} {p eH:Nat} {lost:Bool} {W X:World} {row:Option Nat} (h:PR o c l p eH lost W) (hg:W.grownBy X row) (hp:some p≠row) (hr:∀ b off,o=some ⟨b,off,none⟩→0 < l.length→some b≠row):PR o c l p eH lost X :=
 ⟨by rw [hg.block p h.lt hp];exact h.row,h.bs.grown hg hr,h.ok⟩
theorem NB (o:Option Addr) (c:Nat) (l:List Nat) (p eH:Nat) (lost:Bool) (w:World) (h:PR o c l p eH lost w) :
  Calls Tryz.prog 76 #[.pointer (some ⟨p,0,none⟩)] w fun e w'=>e=.returned undef∧PR o c l p eH true w'∧w.grownBy w' (some p):=by
 obtain ⟨c0,c1,c2,c3,f1,f3⟩:=h.facts
 have HF:=aA (gU p true lost w c0 c1)
 cases lost with
 | true =>
  have HH:=aA h
  clear h
  go_enter Tryz.func76,Tryz.ntmps76
  go_wp2_with fail
  refine HF.out.mono ?_
  rintro e w1 ⟨rfl,rfl⟩
  simp only [fl,if_true]
  go_wp2_with fail
  go_end0
  exact ⟨rfl,HH.out,cB _ _⟩
 | false =>
  have HH:=aA h.DD
  clear h
  go_enter Tryz.func76,Tryz.ntmps76
  go_wp2_with fail
  refine HF.out.mono ?_
  rintro e w1 ⟨rfl,rfl⟩
  simp only [fl,if_true,bE,if_false]
  go_wp2_with fail
  go_end0
  exact ⟨rfl,HH.out,fO _ _ _ _⟩
def GR (lost:Bool) (l:List Nat) (eH:Nat):Nat:=if lost=true then 0 else l.length - eH
theorem sN (o:Option Addr) (c:Nat) (l:List Nat) (p eH:Nat) (lost:Bool) (w:World) (k:iA l eH) (h:PR o c l p eH lost w) :
  Calls Tryz.prog 84 #[.pointer (some ⟨p,0,none⟩)] w fun e w'=>e=.returned (.int .i64 ((GR lost l eH:Nat):Int))∧Below w.heap.size w w':=by
 obtain ⟨c0,c1,c2,c3,_,_⟩:=h.facts
 have HF:=aA (gU p true lost w c0 c1)
 have HR:=aA h
 have k1:=k.len
 have k2:=k.at'
 clear h k
 cases lost with
 | true =>
  go_enter Tryz.func84,Tryz.ntmps84
  go_wp2_with fail
  refine HF.out.mono ?_
  rintro e w1 ⟨rfl,rfl⟩
  simp only [fl,if_true]
  go_wp2_with fail
  go_ret
  exact ⟨rfl,aI _ _⟩
 | false =>
  have hlf:((GR false l eH:Nat):Int)=(l.length:Int) - (eH:Int):=by unfold GR;simp;omega
  rw [hlf]
  have Vs:Hid (IntKind.i64.wrap ((l.length:Int) - (eH:Int))=(l.length:Int) - (eH:Int)):=aA (by rw [aZ];omega)
  clear hlf
  go_enter Tryz.func84,Tryz.ntmps84
  go_wp2_with fail
  refine HF.out.mono ?_
  rintro e w1 ⟨rfl,rfl⟩
  simp only [fl,if_true,bE,if_false]
  clear HF c0 c1 c2 c3
  go_wp2_with fail
  rename_i K3 hK3
  refine (bG (n:=5)).1 (fA (S:=fun X=>Below w.heap.size w X) (Z:=[]) (by kernel_rfl) (by kernel_rfl) eU (fun d _ _ _ _ h=>by cases d <;> exact h) (fG _ _ 1) (fun hG qR hw0=>?_))
  refine dO [] 0 (?_) hG rfl (by kernel_rfl) hw0 (by kernel_rfl) ?_ ?_
  rotate_left
  ·intro wz hSw;(first | (go_simp;done) | (go_simp;with_reducible rfl))
  intro qQ hw1
  clear hw0 qR
  try simp only [aQ]
  refine dO [] 1 (?_) hG rfl (by kernel_rfl) hw1 (by kernel_rfl) ?_ ?_
  rotate_left
  ·intro wz hSw;(first | (go_simp;done) | (go_simp;with_reducible rfl))
  intro qP hw2
  clear hw1 qQ
  try simp only [aQ]
  refine dO [] 2 (?_) hG rfl (by kernel_rfl) hw2 (by kernel_rfl) ?_ ?_
  rotate_left
  ·intro wz hSw;(first | (go_simp;done) | (go_simp;with_reducible rfl))
  intro qO hw3
  clear hw2 qP
  try simp only [aQ]
  refine dO [] 3 (?_) hG rfl (by kernel_rfl) hw3 (by kernel_rfl) ?_ ?_
  rotate_left
  ·intro wz hSw;(first | (go_simp;done) | (go_simp;with_reducible rfl))
  intro qN hw4
  clear hw3 qO
  try simp only [aQ]
  refine dO [] 4 (.slice o l.length c) hG rfl (by kernel_rfl) hw4 (by kernel_rfl) ?_ ?_
  ·intro wz hSw;obtain ⟨c0,c1,c2,c3,_,_⟩:=(HR.out.below hSw).facts;(first | (go_simp;done) | (go_simp;with_reducible rfl))
  intro qM lK
  clear hw4 qN
  try simp only [aQ]
  refine dO [] 5 (?_) hG rfl (by kernel_rfl) lK (by kernel_rfl) ?_ ?_
  rotate_left
  ·intro wz hSw;(first | (go_simp;done) | (go_simp;with_reducible rfl))
  intro qL kP
  clear lK qM
  try simp only [aQ]
  refine dO [] 6 (?_) hG rfl (by kernel_rfl) kP (by kernel_rfl) ?_ ?_
  rotate_left
  ·intro wz hSw;(first | (go_simp;done) | (go_simp;with_reducible rfl))
  intro pQ hw7
  clear kP qL
  try simp only [aQ]
  refine dO [] 7 (?_) hG rfl (by kernel_rfl) hw7 (by kernel_rfl) ?_ ?_
  rotate_left
  ·intro wz hSw;(first | (go_simp;done) | (go_simp;with_reducible rfl))
  intro rA hw8
  clear hw7 pQ
  try simp only [aQ]
  refine dO [] 8 (?_) hG rfl (by kernel_rfl) hw8 (by kernel_rfl) ?_ ?_
  rotate_left
  ·intro wz hSw;(first | (go_simp;done) | (go_simp;with_reducible rfl))
  intro qZ mH
  clear hw8 rA
  try simp only [aQ]
  refine dO [] 9 (.int .i64 (eH:Int)) hG rfl (by kernel_rfl) mH (by kernel_rfl) ?_ ?_
  ·intro wz hSw;obtain ⟨c0,c1,c2,c3,_,_⟩:=(HR.out.below hSw).facts;(first | (go_simp;done) | (go_simp;with_reducible rfl))
  intro jM iF
  clear mH qZ
  try simp only [aQ]
  refine dO [] 10 (.int .i64 ((l.length:Int) - (eH:Int))) hG rfl (by kernel_rfl) iF (by kernel_rfl) ?_ ?_
  ·intro wz hSw;have ee:=Vs.out;(first | (go_simp;done) | (go_simp;rw [ee]) | (go_simp;with_reducible rfl))
  intro kW iN
  clear iF jM
  try simp only [aQ]
  refine dO [] 11 (?_) hG rfl (by kernel_rfl) iN (by kernel_rfl) ?_ ?_
  rotate_left
  ·intro wz hSw;(first | (go_simp;done) | (go_simp;with_reducible rfl))
  intro mD jG
  clear iN kW
  try simp only [aQ]
  refine fF (by kernel_rfl) (?_) _
  refine hK3 _ _ ?_
  have HB:=aA jG
  clear hK3 hG jG
  go_wp2_with fail
  go_ret
  exact ⟨rfl,HB.out⟩
theorem nO {n:Nat} {P:Program} {ops:Array Oper} {Q:Exit→Act→World→Prop} {md:Region.Mode} {S:World→Prop} {Z:List Nat} (D:List Nat) (i:Nat) (f:FuncId) (args:Array Value) (v:Value) (s:Sound P ops Q S) {oi:Oper} {fuel:Nat} {listed:Array Bool} {a:Act} {w:World} (hi:ops[i]?=some oi)
  (hk:lQ md ops Z listed i D=true) (hS:S w) (hw:Region.wanted oi (yielded ops a.tmps)=true) (hv:∀ w,(execOp a.eval oi).run P w=.ok (.enter f args) w)
  (hc:∀ w,S w→Calls P f args w fun e w'=>e=.returned v∧Below w.heap.size w w')
  (h:∀ w3,S w3→iJ n P md ops Q S Z fuel (listed.setIfInBounds i true) (a.put oi.dst v) w3):iJ n P md ops Q S Z (fuel + 1) listed a w :=
 oV D i v s hi hk hS (Or.inl ⟨hw,fun w hS=>Or.inr ⟨f,args,hv w,hc w hS⟩⟩) h
theorem rW {o:Oper} {a:Act} {W:World} (x y:Operand) (ho:o.op=.slice 31 x (some y) none none) (oa:Option Addr) (n c l:Nat) (i:Int) (hi:i=(l:Int)) (hx:a.eval x=.slice oa n c) (hy:a.eval y=.int .i64 i)
  (hl:l≤n) (hnc:n≤c) (hn:oa=none→c=0) (hs:0 < c→∀ a,oa=some a→a.spot=none) :
  (execOp a.eval o).run Tryz.prog W=.ok (.value (.slice (iK oa c l) (n - l) (c - l))) W:=by
 subst hi
 have ht':Tryz.prog.underlying 31=some (.slice (Tryz.prog.elem 31)):=by simp [Program.elem,bS]
 have h1:=PP W oa n c l n hl hnc hn hs
 have h2:=run_slice_l W 31 oa n c ht' .i64 (l:Int) (by omega) (by omega)
 have h3:=run_slice_lh W 31 oa n c ht' .i64 .i64 (l:Int) (n:Int) (by omega) (by omega) (by omega)
 have h4:(Instr.slice 31 (.slice oa n c) (some (.int .i64 (l:Int))) none none).run Tryz.prog W=.ok (.slice (iK oa c l) (n - l) (c - l)) W:=by
  rw [h2,←h1,h3]
  simp
 unfold execOp
 simp only [ho,hx,hy,Option.map_some,Option.map_none,Sem.run_bind,run_sliceAt_slice W 31 _ _ _ _ ht',h4,Result.andThen_ok,Sem.run_pure]
end Pk
end Go.Proofs.YtbbhmhihpdmoiaaGreat
