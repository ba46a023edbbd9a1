import Derived.Test.YtogfkahcpjibjaaAssert
namespace Go.Proofs.Ytogfkahcpjibjaa
open Go.RowKit
set_option linter.unusedSimpArgs false
set_option linter.unusedVariables false
set_option maxRecDepth 10000 in
theorem fits_spawn (nb : Nat) (a0 : Option Addr) (c0 : Nat) (a1 : Option Addr) (nr c1 : Nat) (sl : Int) (a b : Int) (w : World) :
    Calls Try.prog 46 #[.iface 114 (.agg #[.int .i64 a, .int .i64 b]), .agg #[.slice a0 nb c0, .slice a1 nr c1, .int .i64 sl]] w fun e w' => e = .returned (.bool (regB a && chanB nb b)) ∧ Below w.heap.size w w' := by
  go_enter Try.func46, Try.ntmps46
  go_wp2_with (first | (go_at_call 51; refine (isReg_any _ _).mono ?_; rintro e w' ⟨rfl, rfl⟩) | (go_at_call 28; refine (isTime_any _ _).mono ?_; rintro e w' ⟨rfl, rfl⟩) | (go_at_call 40; refine (hasChan_any _ _ _ _ _ _ _).mono ?_; rintro e w' ⟨rfl, hbel⟩; have hcl := bcell hbel; have hz := hbel.size; simp only [World.size_alloc] at hz hcl))
  all_goals go_ret
  all_goals first | exact ⟨by simp [chanB, *] <;> (intros; omega), (Below.refl _ _).alloc (Nat.le_refl _) _⟩ | exact ⟨by simp [chanB, *] <;> (intros; omega), ((Below.refl _ _).alloc (Nat.le_refl _) _).alloc (by simp) _⟩ | exact ⟨by simp [*], (((Below.refl _ _).alloc (Nat.le_refl _) _).alloc (by simp) _).trans (hbel.mono (by simp; omega))⟩
set_option maxRecDepth 10000 in
theorem fits_wait (nb : Nat) (a0 : Option Addr) (c0 : Nat) (a1 : Option Addr) (nr c1 : Nat) (sl : Int) (a : Int) (w : World) :
    Calls Try.prog 46 #[.iface 115 (.agg #[.int .i64 a]), .agg #[.slice a0 nb c0, .slice a1 nr c1, .int .i64 sl]] w fun e w' => e = .returned (.bool (regB a)) ∧ Below w.heap.size w w' := by
  go_enter Try.func46, Try.ntmps46
  go_wp2_with (first | (go_at_call 51; refine (isReg_any _ _).mono ?_; rintro e w' ⟨rfl, rfl⟩) | (go_at_call 28; refine (isTime_any _ _).mono ?_; rintro e w' ⟨rfl, rfl⟩) | (go_at_call 40; refine (hasChan_any _ _ _ _ _ _ _).mono ?_; rintro e w' ⟨rfl, hbel⟩; have hcl := bcell hbel; have hz := hbel.size; simp only [World.size_alloc] at hz hcl))
  all_goals go_ret
  all_goals first | exact ⟨by simp [chanB, *] <;> (intros; omega), (Below.refl _ _).alloc (Nat.le_refl _) _⟩ | exact ⟨by simp [chanB, *] <;> (intros; omega), ((Below.refl _ _).alloc (Nat.le_refl _) _).alloc (by simp) _⟩ | exact ⟨by simp [*], (((Below.refl _ _).alloc (Nat.le_refl _) _).alloc (by simp) _).trans (hbel.mono (by simp; omega))⟩
set_option maxRecDepth 10000 in
theorem fits_send (nb : Nat) (a0 : Option Addr) (c0 : Nat) (a1 : Option Addr) (nr c1 : Nat) (sl : Int) (a b : Int) (w : World) :
    Calls Try.prog 46 #[.iface 117 (.agg #[.int .i64 a, .int .i64 b]), .agg #[.slice a0 nb c0, .slice a1 nr c1, .int .i64 sl]] w fun e w' => e = .returned (.bool (regB a && chanB nr b)) ∧ Below w.heap.size w w' := by
  go_enter Try.func46, Try.ntmps46
  go_wp2_with (first | (go_at_call 51; refine (isReg_any _ _).mono ?_; rintro e w' ⟨rfl, rfl⟩) | (go_at_call 28; refine (isTime_any _ _).mono ?_; rintro e w' ⟨rfl, rfl⟩) | (go_at_call 40; refine (hasChan_any _ _ _ _ _ _ _).mono ?_; rintro e w' ⟨rfl, hbel⟩; have hcl := bcell hbel; have hz := hbel.size; simp only [World.size_alloc] at hz hcl))
  all_goals go_ret
  all_goals first | exact ⟨by simp [chanB, *] <;> (intros; omega), (Below.refl _ _).alloc (Nat.le_refl _) _⟩ | exact ⟨by simp [chanB, *] <;> (intros; omega), ((Below.refl _ _).alloc (Nat.le_refl _) _).alloc (by simp) _⟩ | exact ⟨by simp [*], (((Below.refl _ _).alloc (Nat.le_refl _) _).alloc (by simp) _).trans (hbel.mono (by simp; omega))⟩
set_option maxRecDepth 10000 in
theorem fits_take (nb : Nat) (a0 : Option Addr) (c0 : Nat) (a1 : Option Addr) (nr c1 : Nat) (sl : Int) (a b : Int) (w : World) :
    Calls Try.prog 46 #[.iface 118 (.agg #[.int .i64 a, .int .i64 b]), .agg #[.slice a0 nb c0, .slice a1 nr c1, .int .i64 sl]] w fun e w' => e = .returned (.bool (regB a && chanB nr b)) ∧ Below w.heap.size w w' := by
  go_enter Try.func46, Try.ntmps46
  go_wp2_with (first | (go_at_call 51; refine (isReg_any _ _).mono ?_; rintro e w' ⟨rfl, rfl⟩) | (go_at_call 28; refine (isTime_any _ _).mono ?_; rintro e w' ⟨rfl, rfl⟩) | (go_at_call 40; refine (hasChan_any _ _ _ _ _ _ _).mono ?_; rintro e w' ⟨rfl, hbel⟩; have hcl := bcell hbel; have hz := hbel.size; simp only [World.size_alloc] at hz hcl))
  all_goals go_ret
  all_goals first | exact ⟨by simp [chanB, *] <;> (intros; omega), (Below.refl _ _).alloc (Nat.le_refl _) _⟩ | exact ⟨by simp [chanB, *] <;> (intros; omega), ((Below.refl _ _).alloc (Nat.le_refl _) _).alloc (by simp) _⟩ | exact ⟨by simp [*], (((Below.refl _ _).alloc (Nat.le_refl _) _).alloc (by simp) _).trans (hbel.mono (by simp; omega))⟩
set_option maxRecDepth 10000 in
theorem fits_for (nb : Nat) (a0 : Option Addr) (c0 : Nat) (a1 : Option Addr) (nr c1 : Nat) (sl : Int) (a b n : Int) (w : World) :
    Calls Try.prog 46 #[.iface 120 (.agg #[.int .i64 a, .int .i64 b, .int .i64 n]), .agg #[.slice a0 nb c0, .slice a1 nr c1, .int .i64 sl]] w fun e w' => e = .returned (.bool (regB a && chanB nr b && inB 0 n 1000000)) ∧ Below w.heap.size w w' := by
  go_enter Try.func46, Try.ntmps46
  go_wp2_with (first | (go_at_call 51; refine (isReg_any _ _).mono ?_; rintro e w' ⟨rfl, rfl⟩) | (go_at_call 28; refine (isTime_any _ _).mono ?_; rintro e w' ⟨rfl, rfl⟩) | (go_at_call 40; refine (hasChan_any _ _ _ _ _ _ _).mono ?_; rintro e w' ⟨rfl, hbel⟩; have hcl := bcell hbel; have hz := hbel.size; simp only [World.size_alloc] at hz hcl))
  all_goals go_ret
  all_goals first | exact ⟨by simp [chanB, *] <;> (intros; omega), (Below.refl _ _).alloc (Nat.le_refl _) _⟩ | exact ⟨by simp [chanB, *] <;> (intros; omega), ((Below.refl _ _).alloc (Nat.le_refl _) _).alloc (by simp) _⟩ | exact ⟨by simp [*], (((Below.refl _ _).alloc (Nat.le_refl _) _).alloc (by simp) _).trans (hbel.mono (by simp; omega))⟩
end Go.Proofs.Ytogfkahcpjibjaa
