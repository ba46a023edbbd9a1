import Derived.Test.YtogfkahcpjibjaaInOk
namespace Go.Proofs.Ytogfkahcpjibjaa
open Go.RowKit

def regB (r : Int) : Bool := inB 0 r 3
def zeroB (x : Int) : Bool := x == 0
/-- What a step must be, by its op: what both programs reckon. -/
def shapeB (nb nr : Nat) (s : StepD) : Bool :=
  if s.op = 1 then regB s.a && zeroB s.b && zeroB s.size
  else if s.op = 2 then regB s.a && regB s.b && zeroB s.size
  else if s.op = 3 ∨ s.op = 4 ∨ s.op = 5 ∨ s.op = 8 then regB s.a && zeroB s.b && zeroB s.n && zeroB s.size
  else if s.op = 6 ∨ s.op = 14 then zeroB s.a && zeroB s.b && zeroB s.n && zeroB s.size
  else if s.op = 7 then regB s.a && chanB nb s.b && zeroB s.n && zeroB s.size
  else if s.op = 9 ∨ s.op = 10 then regB s.a && chanB nr s.b && zeroB s.n && zeroB s.size
  else if s.op = 11 then regB s.a && chanB nr s.b && (decide (0 ≤ s.n) && decide (s.n ≤ 1000000)) && zeroB s.size
  else if s.op = 12 then regB s.a && chanB nr s.b && (decide (0 ≤ s.n) && decide (s.n < (nr : Int))) && zeroB s.size
  else if s.op = 13 then zeroB s.a && chanB nr s.b && zeroB s.n && zeroB s.size
  else if s.op = 15 ∨ s.op = 16 then regB s.a && zeroB s.b && zeroB s.n && decide (0 ≤ s.size)
  else false

theorem l1reg_any (x : Int) (w : World) : Calls Try.prog 32 #[.int .i64 x] w fun e w' => e = .returned (.bool (regB x)) ∧ w' = w := by
  go_enter Try.func32, Try.ntmps32
  go_wp2_with (go_at_call 18; refine (l1in_any _ _ _ _).mono ?_; rintro e w' ⟨rfl, rfl⟩)
  go_ret
  exact ⟨rfl, rfl⟩
theorem isReg_any (x : Int) (w : World) : Calls Try.prog 51 #[.int .i64 x] w fun e w' => e = .returned (.bool (regB x)) ∧ w' = w := by
  by_cases h1 : 0 ≤ x <;> by_cases h2 : x ≤ 3
  all_goals
    go_enter Try.func51, Try.ntmps51
    go_wp2
    go_ret
    exact ⟨by simp [regB, inB, h1, h2] <;> omega, rfl⟩
theorem l1block_any (x : Int) (w : World) : Calls Try.prog 33 #[.int .i64 x] w fun e w' => e = .returned (.bool (decide (x = 15 ∨ x = 16))) ∧ w' = w := by
  by_cases h1 : x = 15 <;> by_cases h2 : x = 16
  all_goals
    go_enter Try.func33, Try.ntmps33
    go_wp2
    all_goals go_ret
    all_goals exact ⟨by simp [h1, h2], rfl⟩
end Go.Proofs.Ytogfkahcpjibjaa
