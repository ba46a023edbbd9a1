import Derived.Test.YtogfkahcpjibjaaShape
namespace Go.Proofs.Ytogfkahcpjibjaa
open Go.RowKit
set_option linter.unusedSimpArgs false
set_option linter.unusedVariables false
set_option maxRecDepth 10000 in
theorem shape6 (nb : Nat) (a0 : Option Addr) (c0 : Nat) (a1 : Option Addr) (nr c1 : Nat) (sl a b n size : Int) (w : World) (hb : nb ≤ 1048576) (hr : nr ≤ 1048576) :
    Calls Try.prog 19 #[.agg #[.slice a0 nb c0, .slice a1 nr c1, .int .i64 sl], .agg #[.int .i64 6, .int .i64 a, .int .i64 b, .int .i64 n, .int .i64 size]] w fun e w' => e = .returned (.bool (shapeB nb nr ⟨6, a, b, n, size⟩)) ∧ Below w.heap.size w w' := by
  go_enter Try.func19, Try.ntmps19
  go_wp2_with (first | (go_at_call 18; refine (l1in_any _ _ _ _).mono ?_; rintro e w' ⟨rfl, rfl⟩; simp only [chan_in]) | (go_at_call 32; refine (l1reg_any _ _).mono ?_; rintro e w' ⟨rfl, rfl⟩))
  all_goals go_ret
  all_goals exact ⟨by simp [shapeB, zeroB, *] <;> (intros; omega), ((Below.refl _ _).alloc (Nat.le_refl _) _).alloc (by simp) _⟩
set_option maxRecDepth 10000 in
theorem shape7 (nb : Nat) (a0 : Option Addr) (c0 : Nat) (a1 : Option Addr) (nr c1 : Nat) (sl a b n size : Int) (w : World) (hb : nb ≤ 1048576) (hr : nr ≤ 1048576) :
    Calls Try.prog 19 #[.agg #[.slice a0 nb c0, .slice a1 nr c1, .int .i64 sl], .agg #[.int .i64 7, .int .i64 a, .int .i64 b, .int .i64 n, .int .i64 size]] w fun e w' => e = .returned (.bool (shapeB nb nr ⟨7, a, b, n, size⟩)) ∧ Below w.heap.size w w' := by
  go_enter Try.func19, Try.ntmps19
  go_wp2_with (first | (go_at_call 18; refine (l1in_any _ _ _ _).mono ?_; rintro e w' ⟨rfl, rfl⟩; simp only [chan_in]) | (go_at_call 32; refine (l1reg_any _ _).mono ?_; rintro e w' ⟨rfl, rfl⟩))
  all_goals go_ret
  all_goals exact ⟨by simp [shapeB, zeroB, *] <;> (intros; omega), ((Below.refl _ _).alloc (Nat.le_refl _) _).alloc (by simp) _⟩
set_option maxRecDepth 10000 in
theorem shape8 (nb : Nat) (a0 : Option Addr) (c0 : Nat) (a1 : Option Addr) (nr c1 : Nat) (sl a b n size : Int) (w : World) (hb : nb ≤ 1048576) (hr : nr ≤ 1048576) :
    Calls Try.prog 19 #[.agg #[.slice a0 nb c0, .slice a1 nr c1, .int .i64 sl], .agg #[.int .i64 8, .int .i64 a, .int .i64 b, .int .i64 n, .int .i64 size]] w fun e w' => e = .returned (.bool (shapeB nb nr ⟨8, a, b, n, size⟩)) ∧ Below w.heap.size w w' := by
  go_enter Try.func19, Try.ntmps19
  go_wp2_with (first | (go_at_call 18; refine (l1in_any _ _ _ _).mono ?_; rintro e w' ⟨rfl, rfl⟩; simp only [chan_in]) | (go_at_call 32; refine (l1reg_any _ _).mono ?_; rintro e w' ⟨rfl, rfl⟩))
  all_goals go_ret
  all_goals exact ⟨by simp [shapeB, zeroB, *] <;> (intros; omega), ((Below.refl _ _).alloc (Nat.le_refl _) _).alloc (by simp) _⟩
set_option maxRecDepth 10000 in
theorem shape9 (nb : Nat) (a0 : Option Addr) (c0 : Nat) (a1 : Option Addr) (nr c1 : Nat) (sl a b n size : Int) (w : World) (hb : nb ≤ 1048576) (hr : nr ≤ 1048576) :
    Calls Try.prog 19 #[.agg #[.slice a0 nb c0, .slice a1 nr c1, .int .i64 sl], .agg #[.int .i64 9, .int .i64 a, .int .i64 b, .int .i64 n, .int .i64 size]] w fun e w' => e = .returned (.bool (shapeB nb nr ⟨9, a, b, n, size⟩)) ∧ Below w.heap.size w w' := by
  go_enter Try.func19, Try.ntmps19
  go_wp2_with (first | (go_at_call 18; refine (l1in_any _ _ _ _).mono ?_; rintro e w' ⟨rfl, rfl⟩; simp only [chan_in]) | (go_at_call 32; refine (l1reg_any _ _).mono ?_; rintro e w' ⟨rfl, rfl⟩))
  all_goals go_ret
  all_goals exact ⟨by simp [shapeB, zeroB, *] <;> (intros; omega), ((Below.refl _ _).alloc (Nat.le_refl _) _).alloc (by simp) _⟩
set_option maxRecDepth 10000 in
theorem shape10 (nb : Nat) (a0 : Option Addr) (c0 : Nat) (a1 : Option Addr) (nr c1 : Nat) (sl a b n size : Int) (w : World) (hb : nb ≤ 1048576) (hr : nr ≤ 1048576) :
    Calls Try.prog 19 #[.agg #[.slice a0 nb c0, .slice a1 nr c1, .int .i64 sl], .agg #[.int .i64 10, .int .i64 a, .int .i64 b, .int .i64 n, .int .i64 size]] w fun e w' => e = .returned (.bool (shapeB nb nr ⟨10, a, b, n, size⟩)) ∧ Below w.heap.size w w' := by
  go_enter Try.func19, Try.ntmps19
  go_wp2_with (first | (go_at_call 18; refine (l1in_any _ _ _ _).mono ?_; rintro e w' ⟨rfl, rfl⟩; simp only [chan_in]) | (go_at_call 32; refine (l1reg_any _ _).mono ?_; rintro e w' ⟨rfl, rfl⟩))
  all_goals go_ret
  all_goals exact ⟨by simp [shapeB, zeroB, *] <;> (intros; omega), ((Below.refl _ _).alloc (Nat.le_refl _) _).alloc (by simp) _⟩
set_option maxRecDepth 10000 in
theorem shape11 (nb : Nat) (a0 : Option Addr) (c0 : Nat) (a1 : Option Addr) (nr c1 : Nat) (sl a b n size : Int) (w : World) (hb : nb ≤ 1048576) (hr : nr ≤ 1048576) :
    Calls Try.prog 19 #[.agg #[.slice a0 nb c0, .slice a1 nr c1, .int .i64 sl], .agg #[.int .i64 11, .int .i64 a, .int .i64 b, .int .i64 n, .int .i64 size]] w fun e w' => e = .returned (.bool (shapeB nb nr ⟨11, a, b, n, size⟩)) ∧ Below w.heap.size w w' := by
  go_enter Try.func19, Try.ntmps19
  go_wp2_with (first | (go_at_call 18; refine (l1in_any _ _ _ _).mono ?_; rintro e w' ⟨rfl, rfl⟩; simp only [chan_in]) | (go_at_call 32; refine (l1reg_any _ _).mono ?_; rintro e w' ⟨rfl, rfl⟩))
  all_goals go_ret
  all_goals exact ⟨by simp [shapeB, zeroB, *] <;> (intros; omega), ((Below.refl _ _).alloc (Nat.le_refl _) _).alloc (by simp) _⟩
end Go.Proofs.Ytogfkahcpjibjaa
