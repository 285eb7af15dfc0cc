/- The chapter's first examples, walked. -/
import Derived.Test.YtgkcbadfjhicnabProg
import Derived.Test.YtgkcbadfjhicnabCr
import Derived.WalkKit
import Derived.Lib.Hide
import Derived.Lib.SlBytesConst
import Derived.Outline
import Derived.Deep.QuietTactic
import Derived.BigQuiet
set_option linter.unusedVariables false
set_option linter.unusedSimpArgs false
namespace Go.Proofs.Ytgkcbadfjhicnab.Fx
open Go Go.RowKit
theorem val_nil : more 0 [] = 0 := by kernel_rfl
theorem val_a : more 0 [97] = 3904355907 := by kernel_rfl
theorem val_9 : more 0 [49, 50, 51, 52, 53, 54, 55, 56, 57] = 3421780262 := by kernel_rfl
theorem sum_at (l : List Nat) (cap b : Nat) (m : Nat) (hm : more 0 l = m) (hl : By l) (hlen : l.length ≤ 9223372036854775807) (w : World) (hb : Bs w (some ⟨b, 0, none⟩) l) :
    Calls Try.prog 8 #[.slice (some ⟨b, 0, none⟩) l.length cap] w fun e w' => e = .returned (.int .u32 (m : Int)) ∧ w' = w := by
  subst hm
  exact sum_any l _ cap w hl hlen hb
/-- a row of bytes -/
def bR (l : List Nat) : Array Value := (l.map fun x : Nat => Value.int .u8 (x : Int)).toArray
theorem bR_size (l : List Nat) : (bR l).size = l.length := by simp [bR]
theorem bR_get (l : List Nat) {j : Nat} (h : j < l.length) : (bR l)[j]? = some (.int .u8 ((l.getD j 0 : Nat) : Int)) := by simp [bR, h, List.getD]
theorem Bs.row {W : World} {b : Nat} {l : List Nat} {t : TypeId} {fr : Nat × Nat} (h : W.heap[b]? = some (.cells (bR l) t fr)) : Bs W (some ⟨b, 0, none⟩) l := fun j hj =>
  ⟨b, 0, rfl, by rw [Nat.zero_add, cell_of_row _ _ _ _ _ _ h, bR_get l hj]⟩
theorem By.of {l : List Nat} (h : l.all (fun c => decide (c < 256)) = true) : By l := fun c hc => by
  have := List.all_eq_true.1 h c hc
  simpa using this
set_option maxHeartbeats 1600000 in
theorem alive_any (w : World) : Calls Try.prog 19 #[] w fun e w' => e = .returned (.bool true) ∧ Below w.heap.size w w' := by
  have h0 := fun W => sum_any [] none 0 W (by intro c hc; cases hc) (by simp) (fun j hj => absurd hj (by simp))
  rw [val_nil] at h0
  have kc := fun (w : World) (C : Array Value) (n c : Nat) => Lib.run_convert_bytes_const (P := Try.prog) w 22 5 C n c Try.underlying22 Try.underlying5
  have h1 := sum_at [97] 1 w.heap.size _ val_a (By.of (by decide)) (by simp) (w.alloc (.cells (bR [97]) 5 (1, 1 + 1))) (Bs.row (heap_alloc_new w _))
  have h2 := sum_at [49, 50, 51, 52, 53, 54, 55, 56, 57] 9 (w.heap.size + 1) _ val_9 (By.of (by decide)) (by simp) ((w.alloc (.cells (bR [97]) 5 (1, 1 + 1))).alloc (.cells (bR [49, 50, 51, 52, 53, 54, 55, 56, 57]) 5 (9, 9 + 1))) (Bs.row (by
    have := heap_alloc_new (w.alloc (.cells (bR [97]) 5 (1, 1 + 1))) (.cells (bR [49, 50, 51, 52, 53, 54, 55, 56, 57]) 5 (9, 9 + 1))
    rwa [World.size_alloc] at this))
  have kd : (convert 22 22 (.slice (some ⟨w.heap.size + 1, 0, none⟩) 9 9)).run Try.prog ((w.alloc (.cells (bR [97]) 5 (1, 2))).alloc (.cells #[.int .u8 49, .int .u8 50, .int .u8 51, .int .u8 52, .int .u8 53, .int .u8 54, .int .u8 55, .int .u8 56, .int .u8 57] 5)) =
      .ok (.slice (some ⟨w.heap.size + 1, 0, none⟩) 9 9) ((w.alloc (.cells (bR [97]) 5 (1, 2))).alloc (.cells (bR [49, 50, 51, 52, 53, 54, 55, 56, 57]) 5 (9, 10))) := by
    have := kc (w.alloc (.cells (bR [97]) 5 (1, 2))) (bR [49, 50, 51, 52, 53, 54, 55, 56, 57]) 9 9
    rw [World.size_alloc] at this
    exact this
  have H1 := Lib.hid h1; have H2 := Lib.hid h2
  clear h1 h2
  go_enter Try.func19, Try.ntmps19
  go_wp2_with fail
  refine (h0 _).mono ?_
  rintro e w' ⟨rfl, rfl⟩
  go_wp2_with fail
  refine H1.out.mono ?_
  rintro e w2 ⟨rfl, rfl⟩
  go_wp2_with fail
  refine H2.out.mono ?_
  rintro e w2 ⟨rfl, rfl⟩
  go_wp2_with fail
  go_ret
  exact ⟨rfl, by go_grown⟩
end Go.Proofs.Ytgkcbadfjhicnab.Fx
