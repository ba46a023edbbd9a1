import Derived.Test.YtogfkahcpjibjaaShapeA
import Derived.Test.YtogfkahcpjibjaaShapeB
import Derived.Test.YtogfkahcpjibjaaShapeC
namespace Go.Proofs.Ytogfkahcpjibjaa
open Go.RowKit
set_option linter.unusedSimpArgs false
set_option linter.unusedVariables false
set_option maxRecDepth 10000 in
theorem shape_no (nb : Nat) (a0 : Option Addr) (c0 : Nat) (a1 : Option Addr) (nr c1 : Nat) (sl op a b n size : Int) (w : World) (hb : nb ≤ 1048576) (hr : nr ≤ 1048576) (ho : op < 1 ∨ 16 < op) :
    Calls Try.prog 19 #[.agg #[.slice a0 nb c0, .slice a1 nr c1, .int .i64 sl], .agg #[.int .i64 op, .int .i64 a, .int .i64 b, .int .i64 n, .int .i64 size]] w fun e w' => e = .returned (.bool (shapeB nb nr ⟨op, a, b, n, size⟩)) ∧ Below w.heap.size w w' := by
  have g1 : (op == 1) = false := by simp; omega
  have q1 : ¬ op = 1 := by omega
  have g2 : (op == 2) = false := by simp; omega
  have q2 : ¬ op = 2 := by omega
  have g3 : (op == 3) = false := by simp; omega
  have q3 : ¬ op = 3 := by omega
  have g4 : (op == 4) = false := by simp; omega
  have q4 : ¬ op = 4 := by omega
  have g5 : (op == 5) = false := by simp; omega
  have q5 : ¬ op = 5 := by omega
  have g6 : (op == 6) = false := by simp; omega
  have q6 : ¬ op = 6 := by omega
  have g7 : (op == 7) = false := by simp; omega
  have q7 : ¬ op = 7 := by omega
  have g8 : (op == 8) = false := by simp; omega
  have q8 : ¬ op = 8 := by omega
  have g9 : (op == 9) = false := by simp; omega
  have q9 : ¬ op = 9 := by omega
  have g10 : (op == 10) = false := by simp; omega
  have q10 : ¬ op = 10 := by omega
  have g11 : (op == 11) = false := by simp; omega
  have q11 : ¬ op = 11 := by omega
  have g12 : (op == 12) = false := by simp; omega
  have q12 : ¬ op = 12 := by omega
  have g13 : (op == 13) = false := by simp; omega
  have q13 : ¬ op = 13 := by omega
  have g14 : (op == 14) = false := by simp; omega
  have q14 : ¬ op = 14 := by omega
  have g15 : (op == 15) = false := by simp; omega
  have q15 : ¬ op = 15 := by omega
  have g16 : (op == 16) = false := by simp; omega
  have q16 : ¬ op = 16 := by omega
  have hsh : shapeB nb nr ⟨op, a, b, n, size⟩ = false := by simp [shapeB, q1, q2, q3, q4, q5, q6, q7, q8, q9, q10, q11, q12, q13, q14, q15, q16]
  rw [hsh]
  clear hsh q1 q2 q3 q4 q5 q6 q7 q8 q9 q10 q11 q12 q13 q14 q15 q16
  go_enter Try.func19, Try.ntmps19
  go_wp2_with (first | (go_at_call 18; refine (l1in_any _ _ _ _).mono ?_; rintro e w' ⟨rfl, rfl⟩))
  all_goals go_ret
  all_goals exact ⟨rfl, ((Below.refl _ _).alloc (Nat.le_refl _) _).alloc (by simp) _⟩

/-- spec.l1shape. -/
theorem l1shape_any (nb : Nat) (a0 : Option Addr) (c0 : Nat) (a1 : Option Addr) (nr c1 : Nat) (sl op a b n size : Int) (w : World) (hb : nb ≤ 1048576) (hr : nr ≤ 1048576) :
    Calls Try.prog 19 #[.agg #[.slice a0 nb c0, .slice a1 nr c1, .int .i64 sl], .agg #[.int .i64 op, .int .i64 a, .int .i64 b, .int .i64 n, .int .i64 size]] w fun e w' => e = .returned (.bool (shapeB nb nr ⟨op, a, b, n, size⟩)) ∧ Below w.heap.size w w' := by
  by_cases h1 : op = 1
  · subst h1; exact shape1 nb a0 c0 a1 nr c1 sl a b n size w hb hr
  by_cases h2 : op = 2
  · subst h2; exact shape2 nb a0 c0 a1 nr c1 sl a b n size w hb hr
  by_cases h3 : op = 3
  · subst h3; exact shape3 nb a0 c0 a1 nr c1 sl a b n size w hb hr
  by_cases h4 : op = 4
  · subst h4; exact shape4 nb a0 c0 a1 nr c1 sl a b n size w hb hr
  by_cases h5 : op = 5
  · subst h5; exact shape5 nb a0 c0 a1 nr c1 sl a b n size w hb hr
  by_cases h6 : op = 6
  · subst h6; exact shape6 nb a0 c0 a1 nr c1 sl a b n size w hb hr
  by_cases h7 : op = 7
  · subst h7; exact shape7 nb a0 c0 a1 nr c1 sl a b n size w hb hr
  by_cases h8 : op = 8
  · subst h8; exact shape8 nb a0 c0 a1 nr c1 sl a b n size w hb hr
  by_cases h9 : op = 9
  · subst h9; exact shape9 nb a0 c0 a1 nr c1 sl a b n size w hb hr
  by_cases h10 : op = 10
  · subst h10; exact shape10 nb a0 c0 a1 nr c1 sl a b n size w hb hr
  by_cases h11 : op = 11
  · subst h11; exact shape11 nb a0 c0 a1 nr c1 sl a b n size w hb hr
  by_cases h12 : op = 12
  · subst h12; exact shape12 nb a0 c0 a1 nr c1 sl a b n size w hb hr
  by_cases h13 : op = 13
  · subst h13; exact shape13 nb a0 c0 a1 nr c1 sl a b n size w hb hr
  by_cases h14 : op = 14
  · subst h14; exact shape14 nb a0 c0 a1 nr c1 sl a b n size w hb hr
  by_cases h15 : op = 15
  · subst h15; exact shape15 nb a0 c0 a1 nr c1 sl a b n size w hb hr
  by_cases h16 : op = 16
  · subst h16; exact shape16 nb a0 c0 a1 nr c1 sl a b n size w hb hr
  exact shape_no nb a0 c0 a1 nr c1 sl op a b n size w hb hr (by omega)
end Go.Proofs.Ytogfkahcpjibjaa
