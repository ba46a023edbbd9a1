import Derived.Test.YtogfkahcpjibjaaAssert
namespace Go.Proofs.Ytogfkahcpjibjaa
open Go.RowKit
set_option linter.unusedSimpArgs false
set_option linter.unusedVariables false
set_option maxRecDepth 10000 in
theorem fits_pick (nb : Nat) (a0 : Option Addr) (c0 : Nat) (a1 : Option Addr) (nr c1 : Nat) (sl : Int) (a b n : Int) (w : World) :
    Calls Try.prog 46 #[.iface 122 (.agg #[.int .i64 a, .int .i64 b, .int .i64 n]), .agg #[.slice a0 nb c0, .slice a1 nr c1, .int .i64 sl]] w fun e w' => e = .returned (.bool (regB a && chanB nr b && chanB nr n)) ∧ Below w.heap.size w w' := by
  go_enter Try.func46, Try.ntmps46
  go_wp2_with (go_at_call 51; refine (isReg_any _ _).mono ?_; rintro e w' ⟨rfl, rfl⟩)
  rotate_left
  · go_ret
    exact ⟨by simp [*], ((Below.refl _ _).alloc (Nat.le_refl _) _).alloc (by simp) _⟩
  refine (hasChan_any _ _ _ _ _ _ _).mono ?_
  rintro e w1 ⟨rfl, hbel⟩
  have hcl := bcell hbel
  have hz := hbel.size
  simp only [World.size_alloc] at hz hcl
  have HB := hid hbel
  clear hbel
  go_wp2_with fail
  rotate_left
  · go_ret
    exact ⟨by simp [*], (((Below.refl _ _).alloc (Nat.le_refl _) _).alloc (by simp) _).trans (HB.out.mono (by simp; omega))⟩
  refine (hasChan_any _ _ _ _ _ _ _).mono ?_
  rintro e w2 ⟨rfl, hbel2⟩
  have HB2 := hid hbel2
  clear hbel2 hcl
  go_wp2
  go_ret
  exact ⟨by simp [*], ((((Below.refl _ _).alloc (Nat.le_refl _) _).alloc (by simp) _).trans (HB.out.mono (by simp; omega))).trans (HB2.out.mono (by omega))⟩
set_option maxRecDepth 10000 in
theorem fits_close (nb : Nat) (a0 : Option Addr) (c0 : Nat) (a1 : Option Addr) (nr c1 : Nat) (sl : Int) (b : Int) (w : World) :
    Calls Try.prog 46 #[.iface 124 (.agg #[.int .i64 b]), .agg #[.slice a0 nb c0, .slice a1 nr c1, .int .i64 sl]] w fun e w' => e = .returned (.bool (chanB nr b)) ∧ Below w.heap.size w w' := by
  go_enter Try.func46, Try.ntmps46
  go_wp2_with (first | (go_at_call 51; refine (isReg_any _ _).mono ?_; rintro e w' ⟨rfl, rfl⟩) | (go_at_call 28; refine (isTime_any _ _).mono ?_; rintro e w' ⟨rfl, rfl⟩) | (go_at_call 40; refine (hasChan_any _ _ _ _ _ _ _).mono ?_; rintro e w' ⟨rfl, hbel⟩; have hcl := bcell hbel; have hz := hbel.size; simp only [World.size_alloc] at hz hcl))
  all_goals go_ret
  all_goals first | exact ⟨by simp [chanB, *] <;> (intros; omega), (Below.refl _ _).alloc (Nat.le_refl _) _⟩ | exact ⟨by simp [chanB, *] <;> (intros; omega), ((Below.refl _ _).alloc (Nat.le_refl _) _).alloc (by simp) _⟩ | exact ⟨by simp [*], (((Below.refl _ _).alloc (Nat.le_refl _) _).alloc (by simp) _).trans (hbel.mono (by simp; omega))⟩
set_option maxRecDepth 10000 in
theorem fits_end (nb : Nat) (a0 : Option Addr) (c0 : Nat) (a1 : Option Addr) (nr c1 : Nat) (sl : Int)  (w : World) :
    Calls Try.prog 46 #[.iface 125 (.agg #[]), .agg #[.slice a0 nb c0, .slice a1 nr c1, .int .i64 sl]] w fun e w' => e = .returned (.bool (true)) ∧ Below w.heap.size w w' := by
  go_enter Try.func46, Try.ntmps46
  go_wp2_with (first | (go_at_call 51; refine (isReg_any _ _).mono ?_; rintro e w' ⟨rfl, rfl⟩) | (go_at_call 28; refine (isTime_any _ _).mono ?_; rintro e w' ⟨rfl, rfl⟩) | (go_at_call 40; refine (hasChan_any _ _ _ _ _ _ _).mono ?_; rintro e w' ⟨rfl, hbel⟩; have hcl := bcell hbel; have hz := hbel.size; simp only [World.size_alloc] at hz hcl))
  all_goals go_ret
  all_goals first | exact ⟨by simp [chanB, *] <;> (intros; omega), (Below.refl _ _).alloc (Nat.le_refl _) _⟩ | exact ⟨by simp [chanB, *] <;> (intros; omega), ((Below.refl _ _).alloc (Nat.le_refl _) _).alloc (by simp) _⟩ | exact ⟨by simp [*], (((Below.refl _ _).alloc (Nat.le_refl _) _).alloc (by simp) _).trans (hbel.mono (by simp; omega))⟩
set_option maxRecDepth 10000 in
theorem fits_loop (nb : Nat) (a0 : Option Addr) (c0 : Nat) (a1 : Option Addr) (nr c1 : Nat) (sl : Int) (a size : Int) (w : World) :
    Calls Try.prog 46 #[.iface 127 (.agg #[.int .i64 a, .int .i64 size, .slice none 0 0]), .agg #[.slice a0 nb c0, .slice a1 nr c1, .int .i64 sl]] w fun e w' => e = .returned (.bool (regB a && decide (0 ≤ size))) ∧ Below w.heap.size w w' := by
  go_enter Try.func46, Try.ntmps46
  go_wp2_with (first | (go_at_call 51; refine (isReg_any _ _).mono ?_; rintro e w' ⟨rfl, rfl⟩) | (go_at_call 28; refine (isTime_any _ _).mono ?_; rintro e w' ⟨rfl, rfl⟩) | (go_at_call 40; refine (hasChan_any _ _ _ _ _ _ _).mono ?_; rintro e w' ⟨rfl, hbel⟩; have hcl := bcell hbel; have hz := hbel.size; simp only [World.size_alloc] at hz hcl))
  all_goals go_ret
  all_goals first | exact ⟨by simp [chanB, *] <;> (intros; omega), (Below.refl _ _).alloc (Nat.le_refl _) _⟩ | exact ⟨by simp [chanB, *] <;> (intros; omega), ((Below.refl _ _).alloc (Nat.le_refl _) _).alloc (by simp) _⟩ | exact ⟨by simp [*], (((Below.refl _ _).alloc (Nat.le_refl _) _).alloc (by simp) _).trans (hbel.mono (by simp; omega))⟩
set_option maxRecDepth 10000 in
theorem fits_if (nb : Nat) (a0 : Option Addr) (c0 : Nat) (a1 : Option Addr) (nr c1 : Nat) (sl : Int) (a size : Int) (w : World) :
    Calls Try.prog 46 #[.iface 128 (.agg #[.int .i64 a, .int .i64 size, .slice none 0 0]), .agg #[.slice a0 nb c0, .slice a1 nr c1, .int .i64 sl]] w fun e w' => e = .returned (.bool (regB a && decide (0 ≤ size))) ∧ Below w.heap.size w w' := by
  go_enter Try.func46, Try.ntmps46
  go_wp2_with (first | (go_at_call 51; refine (isReg_any _ _).mono ?_; rintro e w' ⟨rfl, rfl⟩) | (go_at_call 28; refine (isTime_any _ _).mono ?_; rintro e w' ⟨rfl, rfl⟩) | (go_at_call 40; refine (hasChan_any _ _ _ _ _ _ _).mono ?_; rintro e w' ⟨rfl, hbel⟩; have hcl := bcell hbel; have hz := hbel.size; simp only [World.size_alloc] at hz hcl))
  all_goals go_ret
  all_goals first | exact ⟨by simp [chanB, *] <;> (intros; omega), (Below.refl _ _).alloc (Nat.le_refl _) _⟩ | exact ⟨by simp [chanB, *] <;> (intros; omega), ((Below.refl _ _).alloc (Nat.le_refl _) _).alloc (by simp) _⟩ | exact ⟨by simp [*], (((Below.refl _ _).alloc (Nat.le_refl _) _).alloc (by simp) _).trans (hbel.mono (by simp; omega))⟩
end Go.Proofs.Ytogfkahcpjibjaa
