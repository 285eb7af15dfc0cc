import Derived.Test.YtbbhmhihpdmoiaaGreatJr16
import Derived.Test.YtbbhmhihpdmoiaaGreatJr17
set_option linter.unusedVariables false
set_option linter.unusedSimpArgs false
set_option maxRecDepth 100000
set_option maxHeartbeats 32000000
namespace Go.Proofs.YtbbhmhihpdmoiaaGreat
namespace Fx
open Go Go.RowKit Wm
structure pK (nx ny nz:Bool) (dx dy dz:List Nat) (w W:World):Prop where
 bx:W.heap[w.heap.size]?=some (.cells (eP nx dx) 214 (0,0))
 wO:W.heap[w.heap.size + 1]?=some (.cells (eP ny dy) 214 (0,0))
 br:W.heap[w.heap.size + 1 + 1]?=some (.cells (eP false zeros) 214 (0,0))
 bz:W.heap[w.heap.size + 1 + 1 + 1]?=some (.cells (eP nz dz) 214 (0,0))
 below:Below w.heap.size w W
theorem pK.up {nx ny nz:Bool} {dx dy dz:List Nat} {w W X:World} (h:pK nx ny nz dx dy dz w W) (hb:Below W.heap.size W X):pK nx ny nz dx dy dz w X :=
 ⟨dV hb h.bx,dV hb h.wO,dV hb h.br,dV hb h.bz,dY h.below hb⟩
theorem pK.row {nx ny nz:Bool} {dx dy dz:List Nat} {w W:World} (h:pK nx ny nz dx dy dz w W) (n:Bool) (d:List Nat):pK nx ny n dx dy d w (W.setRow (w.heap.size + 1 + 1 + 1) (eP n d)) :=
 ⟨by rw [setRow_other _ _ _ _ (by omega)];exact h.bx,by rw [setRow_other _ _ _ _ (by omega)];exact h.wO,by rw [setRow_other _ _ _ _ (by omega)];exact h.br,setRow_heap _ _ _ _ _ _ h.bz,Below.row h.below (by omega) _⟩
theorem pK.sign {nx ny nz:Bool} {dx dy dz:List Nat} {w W:World} (h:pK nx ny nz dx dy dz w W) (n:Bool):pK nx ny n dx dy dz w (W.setCell ⟨w.heap.size + 1 + 1 + 1,0,none⟩ (.bool n)) :=
 ⟨by rw [aH _ _ _ _ (by show _≠w.heap.size + 1 + 1 + 1;omega)];exact h.bx,by rw [aH _ _ _ _ (by show _≠w.heap.size + 1 + 1 + 1;omega)];exact h.wO,by rw [aH _ _ _ _ (by show _≠w.heap.size + 1 + 1 + 1;omega)];exact h.br,
  by rw [aK _ _ _ _ _ _ h.bz,sG],h.below.setCell (p:=⟨w.heap.size + 1 + 1 + 1,0,none⟩) (by show _≤w.heap.size + 1 + 1 + 1;omega) _⟩
theorem pK.heads {nx ny nz:Bool} {dx dy dz:List Nat} {w W:World} (h:pK nx ny nz dx dy dz w W) :
  W.cell? ⟨w.heap.size,0,none⟩=some (.bool nx)∧W.cell? ⟨w.heap.size + 1,0,none⟩=some (.bool ny)∧W.cell? ⟨w.heap.size + 1 + 1 + 1,0,none⟩=some (.bool nz)∧W.frozen? ⟨w.heap.size + 1 + 1 + 1,0,none⟩=false :=
 ⟨by rw [aF _ _ _ _ _ _ h.bx,sH],by rw [aF _ _ _ _ _ _ h.wO,sH],by rw [aF _ _ _ _ _ _ h.bz,sH],dU h.bz⟩
theorem ED (nx ny:Bool) (dx dy:List Nat) (w:World):pK nx ny false dx dy zeros w ((((w.alloc (.cells (eP nx dx) 214)).alloc (.cells (eP ny dy) 214)).alloc (.cells (eP false zeros) 214)).alloc (.cells (eP false zeros) 214)):=by
 have h:=oL w (.cells (eP nx dx) 214) (.cells (eP ny dy) 214) (.cells (eP false zeros) 214) (.cells (eP false zeros) 214)
 exact ⟨h.1.1,h.1.2,h.2.1,h.2.2,by go_grown⟩
theorem OI (nx ny:Bool) (dx dy d:List Nat) (w:World) (hx:dx.length=20) (hy:dy.length=20) (hd:d.length=20) (hs:nx=ny) (hc:∀ w,Calls Tryz.prog 165 #[.agg (eP nx dx),.agg (eP ny dy)] w (qB false d w))
  (hz:(d == zeros)=true):Calls Tryz.prog 158 #[.agg (eP nx dx),.agg (eP ny dy)] w (qB false d w):=by
 have IX:=aA (fK nx dx hx)
 have IY:=aA (fK ny dy hy)
 have OQ:=aA (fK false d hd)
 have IDs:=aA (fK nx d hd)
 have SD:=aA (iG false false zeros d rfl hd)
 have SR:=aA (iG false false zeros d rfl hd)
 have NN:=aA (fun w=>mG nx d w hd)
 have HZ:=aA hz
 have I0:=ED nx ny dx dy w
 have BX:=aA I0.bx
 have BY:=aA I0.wO
 obtain ⟨g0,g1,g2,g3⟩:=I0.heads
 have HI0:=aA I0
 have DV:eP false zeros=#[.bool false,.int .u64 0,.int .u64 0,.int .u64 0,.int .u64 0,.int .u64 0,.int .u64 0,.int .u64 0,.int .u64 0,.int .u64 0,.int .u64 0,.int .u64 0,.int .u64 0,.int .u64 0,.int .u64 0,.int .u64 0,.int .u64 0,.int .u64 0,.int .u64 0,.int .u64 0,.int .u64 0]:=rfl
 rw [DV] at g0 g1 g2 g3
 clear I0 hx hy hd hz DV
 have HC:=aA hc
 have hs1:(nx == ny)=true:=by simp [hs]
 clear hc hs
 go_enter Tryz.func158,Tryz.ntmps158
 go_wp2_with (first | (refine wpList_load_row rfl 214 (.tmp 2) rfl w.heap.size rfl _ _ _ _ BX.out aD rfl IX.out ?_) | (refine wpList_load_row rfl 214 (.tmp 3) rfl (w.heap.size + 1) rfl _ _ _ _ BY.out aD rfl IY.out ?_))
 refine (HC.out _).mono ?_
 rintro e w1 ⟨rfl,hb⟩
 have I1:=HI0.out.up hb
 have B1:=aA I1.bz
 have I2:=I1.row false d
 have I3:=I2.sign nx
 obtain ⟨m0,m1,m2,m3⟩:=I2.heads
 have B3:=aA I3.bz
 have HI3:=aA I3
 clear I1 I2 I3 hb g0 g1 g2 g3
 go_wp2_with (first | (refine dQ rfl 214 (.tmp 5) (.tmp 20) rfl (w.heap.size + 1 + 1 + 1) _ _ (eP false d) rfl rfl B1.out OQ.out SD.out (gV _ _) ?_) | (refine wpList_load_row rfl 214 (.tmp 5) rfl (w.heap.size + 1 + 1 + 1) rfl _ _ _ _ B3.out aD rfl IDs.out ?_))
 refine (NN.out _).mono ?_
 rintro e w4 ⟨rfl,hb4⟩
 rw [HZ.out]
 have I4:=HI3.out.up hb4
 have I5:=I4.sign false
 obtain ⟨n0,n1,n2,n3⟩:=I4.heads
 have B5:=aA I5.bz
 have R5:=aA I5.br
 have L5:=aA I5.below
 clear I4 I5 hb4 m0 m1 m2 m3
 go_wp2_with (first | (refine wpList_load_row rfl 214 (.tmp 5) rfl (w.heap.size + 1 + 1 + 1) rfl _ _ _ _ B5.out aD rfl OQ.out ?_) | (refine dQ rfl 214 (.tmp 4) (.tmp 37) rfl (w.heap.size + 1 + 1) _ _ (eP false d) rfl rfl R5.out OQ.out SR.out (gV _ _) ?_))
 refine aO (v:=.agg (eP false d)) (results_cell_row rfl _ _ (w.heap.size + 1 + 1) _ _ _ _ rfl (setRow_heap _ _ _ _ _ _ R5.out) aD rfl OQ.out) rfl ?_
 exact ⟨rfl,Below.row L5.out (by omega) _⟩
theorem OJ (nx ny:Bool) (dx dy d:List Nat) (w:World) (hx:dx.length=20) (hy:dy.length=20) (hd:d.length=20) (hs:nx=ny) (hc:∀ w,Calls Tryz.prog 165 #[.agg (eP nx dx),.agg (eP ny dy)] w (qB false d w))
  (hz:(d == zeros)=false):Calls Tryz.prog 158 #[.agg (eP nx dx),.agg (eP ny dy)] w (qB nx d w):=by
 have IX:=aA (fK nx dx hx)
 have IY:=aA (fK ny dy hy)
 have OQ:=aA (fK false d hd)
 have IDs:=aA (fK nx d hd)
 have SD:=aA (iG false false zeros d rfl hd)
 have SR:=aA (iG false nx zeros d rfl hd)
 have NN:=aA (fun w=>mG nx d w hd)
 have HZ:=aA hz
 have I0:=ED nx ny dx dy w
 have BX:=aA I0.bx
 have BY:=aA I0.wO
 obtain ⟨g0,g1,g2,g3⟩:=I0.heads
 have HI0:=aA I0
 have DV:eP false zeros=#[.bool false,.int .u64 0,.int .u64 0,.int .u64 0,.int .u64 0,.int .u64 0,.int .u64 0,.int .u64 0,.int .u64 0,.int .u64 0,.int .u64 0,.int .u64 0,.int .u64 0,.int .u64 0,.int .u64 0,.int .u64 0,.int .u64 0,.int .u64 0,.int .u64 0,.int .u64 0,.int .u64 0]:=rfl
 rw [DV] at g0 g1 g2 g3
 clear I0 hx hy hd hz DV
 have HC:=aA hc
 have hs1:(nx == ny)=true:=by simp [hs]
 clear hc hs
 go_enter Tryz.func158,Tryz.ntmps158
 go_wp2_with (first | (refine wpList_load_row rfl 214 (.tmp 2) rfl w.heap.size rfl _ _ _ _ BX.out aD rfl IX.out ?_) | (refine wpList_load_row rfl 214 (.tmp 3) rfl (w.heap.size + 1) rfl _ _ _ _ BY.out aD rfl IY.out ?_))
 refine (HC.out _).mono ?_
 rintro e w1 ⟨rfl,hb⟩
 have I1:=HI0.out.up hb
 have B1:=aA I1.bz
 have I2:=I1.row false d
 have I3:=I2.sign nx
 obtain ⟨m0,m1,m2,m3⟩:=I2.heads
 have B3:=aA I3.bz
 have HI3:=aA I3
 clear I1 I2 I3 hb g0 g1 g2 g3
 go_wp2_with (first | (refine dQ rfl 214 (.tmp 5) (.tmp 20) rfl (w.heap.size + 1 + 1 + 1) _ _ (eP false d) rfl rfl B1.out OQ.out SD.out (gV _ _) ?_) | (refine wpList_load_row rfl 214 (.tmp 5) rfl (w.heap.size + 1 + 1 + 1) rfl _ _ _ _ B3.out aD rfl IDs.out ?_))
 refine (NN.out _).mono ?_
 rintro e w4 ⟨rfl,hb4⟩
 rw [HZ.out]
 have I4:=HI3.out.up hb4
 have I5:=I4
 have B5:=aA I5.bz
 have R5:=aA I5.br
 have L5:=aA I5.below
 clear I4 I5 hb4 m0 m1 m2 m3
 go_wp2_with (first | (refine wpList_load_row rfl 214 (.tmp 5) rfl (w.heap.size + 1 + 1 + 1) rfl _ _ _ _ B5.out aD rfl IDs.out ?_) | (refine dQ rfl 214 (.tmp 4) (.tmp 37) rfl (w.heap.size + 1 + 1) _ _ (eP nx d) rfl rfl R5.out IDs.out SR.out (gV _ _) ?_))
 refine aO (v:=.agg (eP nx d)) (results_cell_row rfl _ _ (w.heap.size + 1 + 1) _ _ _ _ rfl (setRow_heap _ _ _ _ _ _ R5.out) aD rfl IDs.out) rfl ?_
 exact ⟨rfl,Below.row L5.out (by omega) _⟩
theorem add_lt (nx ny:Bool) (dx dy d:List Nat) (w:World) (hx:dx.length=20) (hy:dy.length=20) (hd:d.length=20) (hs:(nx == ny)=false) (hl:∀ w,Calls Tryz.prog 166 #[.agg (eP nx dx),.agg (eP ny dy)] w fun e w'=>e=.returned (.bool true)∧Below w.heap.size w w') (hc:∀ w,Calls Tryz.prog 167 #[.agg (eP ny dy),.agg (eP nx dx)] w (qB false d w))
  (hz:(d == zeros)=false):Calls Tryz.prog 158 #[.agg (eP nx dx),.agg (eP ny dy)] w (qB ny d w):=by
 have IX:=aA (fK nx dx hx)
 have IY:=aA (fK ny dy hy)
 have OQ:=aA (fK false d hd)
 have IDs:=aA (fK ny d hd)
 have SD:=aA (iG false false zeros d rfl hd)
 have SR:=aA (iG false ny zeros d rfl hd)
 have NN:=aA (fun w=>mG ny d w hd)
 have HZ:=aA hz
 have I0:=ED nx ny dx dy w
 have BX:=aA I0.bx
 have BY:=aA I0.wO
 obtain ⟨g0,g1,g2,g3⟩:=I0.heads
 have HI0:=aA I0
 have DV:eP false zeros=#[.bool false,.int .u64 0,.int .u64 0,.int .u64 0,.int .u64 0,.int .u64 0,.int .u64 0,.int .u64 0,.int .u64 0,.int .u64 0,.int .u64 0,.int .u64 0,.int .u64 0,.int .u64 0,.int .u64 0,.int .u64 0,.int .u64 0,.int .u64 0,.int .u64 0,.int .u64 0,.int .u64 0]:=rfl
 rw [DV] at g0 g1 g2 g3
 clear I0 hx hy hd hz DV
 have HC:=aA hc
 have HL:=aA hl
 clear hc hl
 go_enter Tryz.func158,Tryz.ntmps158
 go_wp2_with (first | (refine wpList_load_row rfl 214 (.tmp 2) rfl w.heap.size rfl _ _ _ _ BX.out aD rfl IX.out ?_) | (refine wpList_load_row rfl 214 (.tmp 3) rfl (w.heap.size + 1) rfl _ _ _ _ BY.out aD rfl IY.out ?_))
 refine (HL.out _).mono ?_
 rintro e w0 ⟨rfl,hb0⟩
 have I0:=HI0.out.up hb0
 have BX':=aA I0.bx
 have BY':=aA I0.wO
 clear HI0
 have HI0:=aA I0
 clear I0 hb0 g0 g1 g2 g3
 go_wp2_with (first | (refine wpList_load_row rfl 214 (.tmp 2) rfl w.heap.size rfl _ _ _ _ BX'.out aD rfl IX.out ?_) | (refine wpList_load_row rfl 214 (.tmp 3) rfl (w.heap.size + 1) rfl _ _ _ _ BY'.out aD rfl IY.out ?_))
 refine (HC.out _).mono ?_
 rintro e w1 ⟨rfl,hb⟩
 have I1:=HI0.out.up hb
 have B1:=aA I1.bz
 have I2:=I1.row false d
 have I3:=I2.sign ny
 obtain ⟨m0,m1,m2,m3⟩:=I2.heads
 have B3:=aA I3.bz
 have HI3:=aA I3
 clear I1 I2 I3 hb
 go_wp2_with (first | (refine dQ rfl 214 (.tmp 5) (.tmp 30) rfl (w.heap.size + 1 + 1 + 1) _ _ (eP false d) rfl rfl B1.out OQ.out SD.out (gV _ _) ?_) | (refine wpList_load_row rfl 214 (.tmp 5) rfl (w.heap.size + 1 + 1 + 1) rfl _ _ _ _ B3.out aD rfl IDs.out ?_))
 refine (NN.out _).mono ?_
 rintro e w4 ⟨rfl,hb4⟩
 rw [HZ.out]
 have I4:=HI3.out.up hb4
 have I5:=I4
 have B5:=aA I5.bz
 have R5:=aA I5.br
 have L5:=aA I5.below
 clear I4 I5 hb4 m0 m1 m2 m3
 go_wp2_with (first | (refine wpList_load_row rfl 214 (.tmp 5) rfl (w.heap.size + 1 + 1 + 1) rfl _ _ _ _ B5.out aD rfl IDs.out ?_) | (refine dQ rfl 214 (.tmp 4) (.tmp 37) rfl (w.heap.size + 1 + 1) _ _ (eP ny d) rfl rfl R5.out IDs.out SR.out (gV _ _) ?_))
 refine aO (v:=.agg (eP ny d)) (results_cell_row rfl _ _ (w.heap.size + 1 + 1) _ _ _ _ rfl (setRow_heap _ _ _ _ _ _ R5.out) aD rfl IDs.out) rfl ?_
 exact ⟨rfl,Below.row L5.out (by omega) _⟩
theorem Tc (nx ny:Bool) (dx dy d:List Nat) (w:World) (hx:dx.length=20) (hy:dy.length=20) (hd:d.length=20) (hs:(nx == ny)=false) (hl:∀ w,Calls Tryz.prog 166 #[.agg (eP nx dx),.agg (eP ny dy)] w fun e w'=>e=.returned (.bool false)∧Below w.heap.size w w') (hc:∀ w,Calls Tryz.prog 167 #[.agg (eP nx dx),.agg (eP ny dy)] w (qB false d w))
  (hz:(d == zeros)=false):Calls Tryz.prog 158 #[.agg (eP nx dx),.agg (eP ny dy)] w (qB nx d w):=by
 have IX:=aA (fK nx dx hx)
 have IY:=aA (fK ny dy hy)
 have OQ:=aA (fK false d hd)
 have IDs:=aA (fK nx d hd)
 have SD:=aA (iG false false zeros d rfl hd)
 have SR:=aA (iG false nx zeros d rfl hd)
 have NN:=aA (fun w=>mG nx d w hd)
 have HZ:=aA hz
 have I0:=ED nx ny dx dy w
 have BX:=aA I0.bx
 have BY:=aA I0.wO
 obtain ⟨g0,g1,g2,g3⟩:=I0.heads
 have HI0:=aA I0
 have DV:eP false zeros=#[.bool false,.int .u64 0,.int .u64 0,.int .u64 0,.int .u64 0,.int .u64 0,.int .u64 0,.int .u64 0,.int .u64 0,.int .u64 0,.int .u64 0,.int .u64 0,.int .u64 0,.int .u64 0,.int .u64 0,.int .u64 0,.int .u64 0,.int .u64 0,.int .u64 0,.int .u64 0,.int .u64 0]:=rfl
 rw [DV] at g0 g1 g2 g3
 clear I0 hx hy hd hz DV
 have HC:=aA hc
 have HL:=aA hl
 clear hc hl
 go_enter Tryz.func158,Tryz.ntmps158
 go_wp2_with (first | (refine wpList_load_row rfl 214 (.tmp 2) rfl w.heap.size rfl _ _ _ _ BX.out aD rfl IX.out ?_) | (refine wpList_load_row rfl 214 (.tmp 3) rfl (w.heap.size + 1) rfl _ _ _ _ BY.out aD rfl IY.out ?_))
 refine (HL.out _).mono ?_
 rintro e w0 ⟨rfl,hb0⟩
 have I0:=HI0.out.up hb0
 have BX':=aA I0.bx
 have BY':=aA I0.wO
 clear HI0
 have HI0:=aA I0
 clear I0 hb0 g0 g1 g2 g3
 go_wp2_with (first | (refine wpList_load_row rfl 214 (.tmp 2) rfl w.heap.size rfl _ _ _ _ BX'.out aD rfl IX.out ?_) | (refine wpList_load_row rfl 214 (.tmp 3) rfl (w.heap.size + 1) rfl _ _ _ _ BY'.out aD rfl IY.out ?_))
 refine (HC.out _).mono ?_
 rintro e w1 ⟨rfl,hb⟩
 have I1:=HI0.out.up hb
 have B1:=aA I1.bz
 have I2:=I1.row false d
 have I3:=I2.sign nx
 obtain ⟨m0,m1,m2,m3⟩:=I2.heads
 have B3:=aA I3.bz
 have HI3:=aA I3
 clear I1 I2 I3 hb
 go_wp2_with (first | (refine dQ rfl 214 (.tmp 5) (.tmp 8) rfl (w.heap.size + 1 + 1 + 1) _ _ (eP false d) rfl rfl B1.out OQ.out SD.out (gV _ _) ?_) | (refine wpList_load_row rfl 214 (.tmp 5) rfl (w.heap.size + 1 + 1 + 1) rfl _ _ _ _ B3.out aD rfl IDs.out ?_))
 refine (NN.out _).mono ?_
 rintro e w4 ⟨rfl,hb4⟩
 rw [HZ.out]
 have I4:=HI3.out.up hb4
 have I5:=I4
 have B5:=aA I5.bz
 have R5:=aA I5.br
 have L5:=aA I5.below
 clear I4 I5 hb4 m0 m1 m2 m3
 go_wp2_with (first | (refine wpList_load_row rfl 214 (.tmp 5) rfl (w.heap.size + 1 + 1 + 1) rfl _ _ _ _ B5.out aD rfl IDs.out ?_) | (refine dQ rfl 214 (.tmp 4) (.tmp 37) rfl (w.heap.size + 1 + 1) _ _ (eP nx d) rfl rfl R5.out IDs.out SR.out (gV _ _) ?_))
 refine aO (v:=.agg (eP nx d)) (results_cell_row rfl _ _ (w.heap.size + 1 + 1) _ _ _ _ rfl (setRow_heap _ _ _ _ _ _ R5.out) aD rfl IDs.out) rfl ?_
 exact ⟨rfl,Below.row L5.out (by omega) _⟩
theorem add_eq (nx ny:Bool) (dx dy d:List Nat) (w:World) (hx:dx.length=20) (hy:dy.length=20) (hd:d.length=20) (hs:(nx == ny)=false) (hl:∀ w,Calls Tryz.prog 166 #[.agg (eP nx dx),.agg (eP ny dy)] w fun e w'=>e=.returned (.bool false)∧Below w.heap.size w w') (hc:∀ w,Calls Tryz.prog 167 #[.agg (eP nx dx),.agg (eP ny dy)] w (qB false d w))
  (hz:(d == zeros)=true):Calls Tryz.prog 158 #[.agg (eP nx dx),.agg (eP ny dy)] w (qB false d w):=by
 have IX:=aA (fK nx dx hx)
 have IY:=aA (fK ny dy hy)
 have OQ:=aA (fK false d hd)
 have IDs:=aA (fK nx d hd)
 have SD:=aA (iG false false zeros d rfl hd)
 have SR:=aA (iG false false zeros d rfl hd)
 have NN:=aA (fun w=>mG nx d w hd)
 have HZ:=aA hz
 have I0:=ED nx ny dx dy w
 have BX:=aA I0.bx
 have BY:=aA I0.wO
 obtain ⟨g0,g1,g2,g3⟩:=I0.heads
 have HI0:=aA I0
 have DV:eP false zeros=#[.bool false,.int .u64 0,.int .u64 0,.int .u64 0,.int .u64 0,.int .u64 0,.int .u64 0,.int .u64 0,.int .u64 0,.int .u64 0,.int .u64 0,.int .u64 0,.int .u64 0,.int .u64 0,.int .u64 0,.int .u64 0,.int .u64 0,.int .u64 0,.int .u64 0,.int .u64 0,.int .u64 0]:=rfl
 rw [DV] at g0 g1 g2 g3
 clear I0 hx hy hd hz DV
 have HC:=aA hc
 have HL:=aA hl
 clear hc hl
 go_enter Tryz.func158,Tryz.ntmps158
 go_wp2_with (first | (refine wpList_load_row rfl 214 (.tmp 2) rfl w.heap.size rfl _ _ _ _ BX.out aD rfl IX.out ?_) | (refine wpList_load_row rfl 214 (.tmp 3) rfl (w.heap.size + 1) rfl _ _ _ _ BY.out aD rfl IY.out ?_))
 refine (HL.out _).mono ?_
 rintro e w0 ⟨rfl,hb0⟩
 have I0:=HI0.out.up hb0
 have BX':=aA I0.bx
 have BY':=aA I0.wO
 clear HI0
 have HI0:=aA I0
 clear I0 hb0 g0 g1 g2 g3
 go_wp2_with (first | (refine wpList_load_row rfl 214 (.tmp 2) rfl w.heap.size rfl _ _ _ _ BX'.out aD rfl IX.out ?_) | (refine wpList_load_row rfl 214 (.tmp 3) rfl (w.heap.size + 1) rfl _ _ _ _ BY'.out aD rfl IY.out ?_))
 refine (HC.out _).mono ?_
 rintro e w1 ⟨rfl,hb⟩
 have I1:=HI0.out.up hb
 have B1:=aA I1.bz
 have I2:=I1.row false d
 have I3:=I2.sign nx
 obtain ⟨m0,m1,m2,m3⟩:=I2.heads
 have B3:=aA I3.bz
 have HI3:=aA I3
 clear I1 I2 I3 hb
 go_wp2_with (first | (refine dQ rfl 214 (.tmp 5) (.tmp 8) rfl (w.heap.size + 1 + 1 + 1) _ _ (eP false d) rfl rfl B1.out OQ.out SD.out (gV _ _) ?_) | (refine wpList_load_row rfl 214 (.tmp 5) rfl (w.heap.size + 1 + 1 + 1) rfl _ _ _ _ B3.out aD rfl IDs.out ?_))
 refine (NN.out _).mono ?_
 rintro e w4 ⟨rfl,hb4⟩
 rw [HZ.out]
 have I4:=HI3.out.up hb4
 have I5:=I4.sign false
 obtain ⟨n0,n1,n2,n3⟩:=I4.heads
 have B5:=aA I5.bz
 have R5:=aA I5.br
 have L5:=aA I5.below
 clear I4 I5 hb4 m0 m1 m2 m3
 go_wp2_with (first | (refine wpList_load_row rfl 214 (.tmp 5) rfl (w.heap.size + 1 + 1 + 1) rfl _ _ _ _ B5.out aD rfl OQ.out ?_) | (refine dQ rfl 214 (.tmp 4) (.tmp 37) rfl (w.heap.size + 1 + 1) _ _ (eP false d) rfl rfl R5.out OQ.out SR.out (gV _ _) ?_))
 refine aO (v:=.agg (eP false d)) (results_cell_row rfl _ _ (w.heap.size + 1 + 1) _ _ _ _ rfl (setRow_heap _ _ _ _ _ _ R5.out) aD rfl OQ.out) rfl ?_
 exact ⟨rfl,Below.row L5.out (by omega) _⟩
theorem KS (x y:Int) (w:World) (h:x.natAbs + y.natAbs < BB):Calls Tryz.prog 158 #[.agg (bv x),.agg (bv y)] w (GH (x + y) w):=by
 have hx:x.natAbs < BB:=by omega
 have hy:y.natAbs < BB:=by omega
 have key:∀ (n:Bool) (d:List Nat),n=decide (x + y < 0)→d=dg (x + y).natAbs→Calls Tryz.prog 158 #[.agg (bv x),.agg (bv y)] w (qB n d w)→Calls Tryz.prog 158 #[.agg (bv x),.agg (bv y)] w (GH (x + y) w):=by
  intro n d h1 h2 hc
  refine hc.mono ?_
  rintro e w' ⟨rfl,hb⟩
  exact ⟨by rw [AB h1 h2],hb⟩
 have L:=fun w=>JQ (decide (x < 0)) (decide (y < 0)) (dg x.natAbs) (dg y.natAbs) w (gD _) (gD _)
 rw [QN hx hy] at L
 by_cases hs:decide (x < 0)=decide (y < 0)
 ·have hs':=bY.1 hs
  have hab:(x + y).natAbs=x.natAbs + y.natAbs:=by omega
  have hc:=fun w=>uY (decide (x < 0)) (decide (y < 0)) (dg x.natAbs) (dg y.natAbs) w (rZ _) (rZ _)
  rw [Ec] at hc
  by_cases hz:x.natAbs + y.natAbs=0
  ·exact key false (dg (x.natAbs + y.natAbs)) (by rw [eq_comm,decide_eq_false_iff_not];omega) (by rw [hab]) (OI _ _ _ _ _ w (gD _) (gD _) (gD _) hs hc (by rw [oF h,hz];rfl))
  ·exact key (decide (x < 0)) (dg (x.natAbs + y.natAbs)) (by rw [bY];omega) (by rw [hab]) (OJ _ _ _ _ _ w (gD _) (gD _) (gD _) hs hc (by rw [oF h,aN hz]))
 ·have hs2:(decide (x < 0) == decide (y < 0))=false:=by simpa using hs
  have hs':¬ (x < 0↔y < 0):=fun e=>hs (bY.2 e)
  by_cases hl:x.natAbs < y.natAbs
  ·rw [aV hl] at L
   have hc:=fun w=>AQ (decide (y < 0)) (decide (x < 0)) (dg y.natAbs) (dg x.natAbs) w (rZ _) (rZ _)
   rw [MF (by omega)] at hc
   exact key (decide (y < 0)) (dg (y.natAbs - x.natAbs)) (by rw [bY];omega) (by congr 1;omega) (add_lt _ _ _ _ _ w (gD _) (gD _) (gD _) hs2 L hc (by rw [oF (by omega),aN (by omega)]))
  ·rw [aN hl] at L
   have hc:=fun w=>AQ (decide (x < 0)) (decide (y < 0)) (dg x.natAbs) (dg y.natAbs) w (rZ _) (rZ _)
   rw [MF (by omega)] at hc
   by_cases hz:x.natAbs - y.natAbs=0
   ·exact key false (dg (x.natAbs - y.natAbs)) (by rw [eq_comm,decide_eq_false_iff_not];omega) (by congr 1;omega) (add_eq _ _ _ _ _ w (gD _) (gD _) (gD _) hs2 L hc (by rw [oF (by omega),hz];rfl))
   ·exact key (decide (x < 0)) (dg (x.natAbs - y.natAbs)) (by rw [bY];omega) (by congr 1;omega) (Tc _ _ _ _ _ w (gD _) (gD _) (gD _) hs2 L hc (by rw [oF (by omega),aN hz]))
theorem gX {P:Program} {ops:Array Oper} {rest:List Oper} {o:Oper} {a:Act} {w:World} {Q:Exit→Act→World→Prop} (hg:o.guard=none) (t:TypeId) (parts:Array (Nat×Operand)) (ho:o.op=.build t parts)
  (cells:Array Value) (hb:P.built t (parts.map fun (i,x)=>(i,a.eval x)).toList=some cells) (h:wpList P ops Q rest (a.put o.dst (.agg cells)) w):wpList P ops Q (o :: rest) a w :=
 wpList_build hg t parts ho (by rw [hb];rfl) (by rw [hb];exact h)
theorem fB {P:Program} {ops:Array Oper} {rest:List Oper} {op:Oper} {a:Act} {w:World} {Q:Exit→Act→World→Prop} (hgd:op.guard=none) (ty:TypeId) (x y:Operand) (ho:op.op=.store ty x y)
  (g:Nat) (t:TypeId) (c c':Array Value) (hx:a.eval x=.pointer (some ⟨g,0,none⟩)) (hg:w.heap.size=g) (hy:a.eval y=.agg c')
  (hi:(P.info? ty).map (·.size)=some c'.size) (hs:c.size=c'.size) (h1:c'.all (·.oneCell')=true)
  (h:wpList P ops Q rest (a.put op.dst undef) (w.alloc (.cells c' t))):wpList P ops Q (op :: rest) a (w.alloc (.cells c t)):=by
 subst hg
 refine dQ hgd ty x y ho w.heap.size t c c' hx hy (aG _ _) hi hs h1 ?_
 rw [World.setRow_alloc_new]
 exact h
theorem AA:∀ (k n:Nat),lX (k + 1) n=lX k n ++ [n / 65536 ^ k % 65536]
 | 0,n=>by simp [lX]
 | k + 1,n=>by
  rw [lX,AA k,lX,bT,Nat.div_div_eq_div_mul,bM 65536 k,bN]
theorem KO:∀ k,lX k 0=List.replicate k 0
 | 0=>rfl
 | k + 1=>by rw [lX,KO k];rfl
theorem RX:∀ (k j n:Nat),lX (k + j) n=lX k n ++ lX j (n / 65536 ^ k)
 | 0,j,n=>by simp [lX]
 | k + 1,j,n=>by
  rw [show k + 1 + j=(k + j) + 1 by omega,lX,RX k,lX,bT,Nat.div_div_eq_div_mul,bM 65536 k,bN]
theorem PZ {k n:Nat} (hk:k≤20) (h:n < 65536 ^ k):pad (lX k n)=dg n:=by
 unfold pad dg
 rw [sV,show 20=k + (20 - k) by omega,RX k,Nat.div_eq_of_lt h,KO,show k + (20 - k) - k=20 - k by omega]
structure Vm (neg:Bool) (p:List Nat) (R Z:Nat) (w W:World):Prop where
 br:W.heap[R]?=some (.cells (eP false zeros) 214 (0,0))
 bz:W.heap[Z]?=some (.cells (eP neg (pad p)) 214 (0,0))
 ne:R≠Z
 wz:w.heap.size≤Z
 below:Below w.heap.size w W
theorem Vm.next {neg:Bool} {p:List Nat} {R Z:Nat} {w W:World} (h:Vm neg p R Z w W) (v:Nat) (hp:p.length < 20):Vm neg (p ++ [v]) R Z w (W.setCell ⟨Z,1 + p.length,none⟩ (.int .u64 (v:Int))):=by
 have hn:=h.ne
 refine ⟨?_,?_,hn,h.wz,h.below.setCell (p:=⟨Z,1 + p.length,none⟩) h.wz _⟩
 ·rw [aH _ _ _ _ (by show R≠Z;exact hn)];exact h.br
 ·rw [aK _ _ _ _ _ _ h.bz,xQ p v neg hp]
def Ov (neg:Bool) (u:Nat) (w:World) (g:Nat) (s4 s5:Value) (W:World):Prop :=
 ∃ k:Nat,g=4 - k∧s4=.int .u64 ((u / 65536 ^ k:Nat):Int)∧s5=.int .i64 (k:Int)∧k≤4∧Vm neg (lX k u) w.heap.size (w.heap.size + 1) w W
theorem EZ (n:Int) (u A V C:Nat) (B4:Int) (w:World) (hB4:Hid (B4=18446744073709551615)) (h1:IntKind.u64.wrap n=(A:Int)) (hu:Hid (u < 18446744073709551616))
  (hn:n < 0) (e2:IntKind.u64.wrap (18446744073709551615 - (A:Int))=(V:Int)) (e3:IntKind.u64.wrap ((V:Int) + 1)=(u:Int)) (HU:Hid (pad (lX 4 u)=dg u)) :
  Calls Tryz.prog 156 #[.int .i64 n] w (qB true (dg u) w):=by
 have HUU:=hu
 have HI:=aA (fK true (dg u) (gD u))
 have HS:=aA (iG false true zeros (dg u) rfl (gD u))
 have HI0:Hid (Vm true (lX 0 u) w.heap.size (w.heap.size + 1) w ((w.alloc (.cells (eP false zeros) 214)).alloc (.cells (eP true zeros) 214))) :=
  aA ⟨dW (aG _ _),heap_alloc2_new _ _ _,by omega,by omega,by go_grown⟩
 skip
 go_enter Tryz.func156,Tryz.ntmps156
 go_wp2_with (first | (refine gX rfl 214 #[(0,.tmp 7)] rfl (eP true zeros) (by kernel_rfl) ?_) | (refine fB rfl 214 (.tmp 3) (.tmp 8) rfl (w.heap.size + 1) _ _ (eP true zeros) rfl (by simp) rfl (fK _ _ rfl) rfl (gV _ _) ?_))
 go_loopg [4,5] 4 (Ov true u w)
 case atStart=>exact ⟨0,rfl,by simp,rfl,by omega,HI0.out⟩
 case round =>
  clear HI0
  obtain ⟨k,rfl,rfl,rfl,hk4,I⟩:=hrel
  by_cases hk:k < 4
  ·have hpl:(lX k u).length=k:=sV k u
   have cz:wr.cell? ⟨w.heap.size + 1,1 + k,none⟩=some (.int .u64 (((pad (lX k u)).getD k 0:Nat):Int)):=by rw [aF _ _ _ _ _ _ I.bz,jW _ _ _ (by rw [xR _ (by rw [hpl];omega)];omega)]
   have fz:wr.frozen? ⟨w.heap.size + 1,1 + k,none⟩=false:=dU I.bz
   have k0:(0:Int)≤(k:Int):=by omega
   have k1:(k:Int) < 4:=by omega
   have k2:(k:Int) < 20:=by omega
   obtain ⟨q,hq⟩:∃ q,u / 65536 ^ k=q:=⟨_,rfl⟩
   have Bw:q < 18446744073709551616:=by rw [←hq];exact Nat.lt_of_le_of_lt (Nat.div_le_self _ _) HUU.out
   have HQ:=aA Bw
   clear Bw
   have hsn:lX (k + 1) u=lX k u ++ [q % 65536]:=by rw [AA,hq]
   have hdv:u / 65536 ^ (k + 1)=q / 65536:=by rw [bM,←Nat.div_div_eq_div_mul,hq]
   have I2:=I.next (q % 65536) (by rw [hpl];omega)
   rw [hpl,←hsn] at I2
   have HI2:=aA I2
   have HDV:=aA hdv
   rw [hq]
   clear I I2 hq hsn hdv hpl
   go_wp2_with fail
   go_roundg (4 - (k + 1))
   case measure=>omega
   case rel =>
    refine ⟨k + 1,rfl,?_,by go_num,by omega,?_⟩
    ·rw [HDV.out]
     have:=HQ.out
     congr 1
     rw [aU]
     omega
    ·have:=HI2.out
     simpa using this
  ·have hke:k=4:=by omega
   subst hke
   have bz:=I.bz
   rw [HU.out] at bz
   have BZ:=aA bz
   have BR:=aA I.br
   have BL:=aA I.below
   clear I bz
   go_wp2_with (first | (refine wpList_load_row rfl 214 (.tmp 3) rfl (w.heap.size + 1) rfl _ _ _ _ BZ.out aD rfl HI.out ?_) | (refine dQ rfl 214 (.tmp 2) (.tmp 27) rfl w.heap.size _ _ (eP true (dg u)) rfl rfl BR.out HI.out HS.out (gV _ _) ?_))
   refine aO (v:=.agg (eP true (dg u))) (results_cell_row rfl _ _ w.heap.size _ _ _ _ rfl (setRow_heap _ _ _ _ _ _ BR.out) aD rfl HI.out) rfl ?_
   exact ⟨rfl,Below.row BL.out (aB _) _⟩
theorem CJ (n:Int) (u A V C:Nat) (B4:Int) (w:World) (hB4:Hid (B4=18446744073709551615)) (h1:IntKind.u64.wrap n=(A:Int)) (hu:Hid (A < 18446744073709551616))
  (hn:0≤n) (HU:Hid (pad (lX 4 A)=dg A)) :
  Calls Tryz.prog 156 #[.int .i64 n] w (qB false (dg A) w):=by
 have HUU:=hu
 have HI:=aA (fK false (dg A) (gD A))
 have HS:=aA (iG false false zeros (dg A) rfl (gD A))
 have HI0:Hid (Vm false (lX 0 A) w.heap.size (w.heap.size + 1) w ((w.alloc (.cells (eP false zeros) 214)).alloc (.cells (eP false zeros) 214))) :=
  aA ⟨dW (aG _ _),heap_alloc2_new _ _ _,by omega,by omega,by go_grown⟩
 have t2:¬ n < 0:=by omega
 go_enter Tryz.func156,Tryz.ntmps156
 go_wp2_with (first | (refine gX rfl 214 #[(0,.tmp 7)] rfl (eP false zeros) (by kernel_rfl) ?_) | (refine fB rfl 214 (.tmp 3) (.tmp 8) rfl (w.heap.size + 1) _ _ (eP false zeros) rfl (by simp) rfl (fK _ _ rfl) rfl (gV _ _) ?_))
 go_loopg [4,5] 4 (Ov false A w)
 case atStart=>exact ⟨0,rfl,by simp,rfl,by omega,HI0.out⟩
 case round =>
  clear HI0
  obtain ⟨k,rfl,rfl,rfl,hk4,I⟩:=hrel
  by_cases hk:k < 4
  ·have hpl:(lX k A).length=k:=sV k A
   have cz:wr.cell? ⟨w.heap.size + 1,1 + k,none⟩=some (.int .u64 (((pad (lX k A)).getD k 0:Nat):Int)):=by rw [aF _ _ _ _ _ _ I.bz,jW _ _ _ (by rw [xR _ (by rw [hpl];omega)];omega)]
   have fz:wr.frozen? ⟨w.heap.size + 1,1 + k,none⟩=false:=dU I.bz
   have k0:(0:Int)≤(k:Int):=by omega
   have k1:(k:Int) < 4:=by omega
   have k2:(k:Int) < 20:=by omega
   obtain ⟨q,hq⟩:∃ q,A / 65536 ^ k=q:=⟨_,rfl⟩
   have Bw:q < 18446744073709551616:=by rw [←hq];exact Nat.lt_of_le_of_lt (Nat.div_le_self _ _) HUU.out
   have HQ:=aA Bw
   clear Bw
   have hsn:lX (k + 1) A=lX k A ++ [q % 65536]:=by rw [AA,hq]
   have hdv:A / 65536 ^ (k + 1)=q / 65536:=by rw [bM,←Nat.div_div_eq_div_mul,hq]
   have I2:=I.next (q % 65536) (by rw [hpl];omega)
   rw [hpl,←hsn] at I2
   have HI2:=aA I2
   have HDV:=aA hdv
   rw [hq]
   clear I I2 hq hsn hdv hpl
   go_wp2_with fail
   go_roundg (4 - (k + 1))
   case measure=>omega
   case rel =>
    refine ⟨k + 1,rfl,?_,by go_num,by omega,?_⟩
    ·rw [HDV.out]
     have:=HQ.out
     congr 1
     rw [aU]
     omega
    ·have:=HI2.out
     simpa using this
  ·have hke:k=4:=by omega
   subst hke
   have bz:=I.bz
   rw [HU.out] at bz
   have BZ:=aA bz
   have BR:=aA I.br
   have BL:=aA I.below
   clear I bz
   go_wp2_with (first | (refine wpList_load_row rfl 214 (.tmp 3) rfl (w.heap.size + 1) rfl _ _ _ _ BZ.out aD rfl HI.out ?_) | (refine dQ rfl 214 (.tmp 2) (.tmp 27) rfl w.heap.size _ _ (eP false (dg A)) rfl rfl BR.out HI.out HS.out (gV _ _) ?_))
   refine aO (v:=.agg (eP false (dg A))) (results_cell_row rfl _ _ w.heap.size _ _ _ _ rfl (setRow_heap _ _ _ _ _ _ BR.out) aD rfl HI.out) rfl ?_
   exact ⟨rfl,Below.row BL.out (aB _) _⟩
theorem Ap (n:Int) (w:World) (h0:-9223372036854775808≤n) (h1:n≤9223372036854775807):Calls Tryz.prog 156 #[.int .i64 n] w (GH n w):=by
 by_cases hn:n < 0
 ·have hu:n.natAbs < 18446744073709551616:=by omega
  have:=EZ n n.natAbs (n + 18446744073709551616).toNat (-n - 1).toNat 0 _ w (aA rfl) (by rw [aU];omega) (aA hu) hn (by rw [aU];omega) (by rw [aU];omega) (aA (PZ (by omega) (by omega)))
  refine this.mono ?_
  rintro e w' ⟨rfl,hb⟩
  exact ⟨by rw [AB (z:=n) (by rw [aV hn]) rfl],hb⟩
 ·have hu:n.natAbs < 18446744073709551616:=by omega
  have:=CJ n 0 n.natAbs 0 0 _ w (aA rfl) (by rw [aU];omega) (aA hu) (by omega) (aA (PZ (by omega) (by omega)))
  refine this.mono ?_
  rintro e w' ⟨rfl,hb⟩
  exact ⟨by rw [AB (z:=n) (by rw [aN hn]) rfl],hb⟩
end Fx
end Go.Proofs.YtbbhmhihpdmoiaaGreat
