import Derived.Test.YtogfkahcpjibjaaDeed
namespace Go.Proofs.Ytogfkahcpjibjaa
open Go.RowKit
set_option linter.unusedSimpArgs false
set_option linter.unusedVariables false
set_option maxRecDepth 10000 in
theorem rd_set (a b n size : Int) (w : World) : Calls Try.prog 45 #[.agg #[.int .i64 1, .int .i64 a, .int .i64 b, .int .i64 n, .int .i64 size]] w fun e w' => e = .returned (.iface 104 (.agg #[.int .i64 a, .int .i64 n])) ∧ Below w.heap.size w w' := by
  go_enter Try.func45, Try.ntmps45
  go_wp2
  go_ret
  exact ⟨rfl, (Below.refl _ _).alloc (Nat.le_refl _) _⟩
set_option maxRecDepth 10000 in
theorem rd_add (a b n size : Int) (w : World) : Calls Try.prog 45 #[.agg #[.int .i64 2, .int .i64 a, .int .i64 b, .int .i64 n, .int .i64 size]] w fun e w' => e = .returned (.iface 106 (.agg #[.int .i64 a, .int .i64 b, .int .i64 n])) ∧ Below w.heap.size w w' := by
  go_enter Try.func45, Try.ntmps45
  go_wp2
  go_ret
  exact ⟨rfl, (Below.refl _ _).alloc (Nat.le_refl _) _⟩
set_option maxRecDepth 10000 in
theorem rd_say (a b n size : Int) (w : World) : Calls Try.prog 45 #[.agg #[.int .i64 3, .int .i64 a, .int .i64 b, .int .i64 n, .int .i64 size]] w fun e w' => e = .returned (.iface 108 (.agg #[.int .i64 a])) ∧ Below w.heap.size w w' := by
  go_enter Try.func45, Try.ntmps45
  go_wp2
  go_ret
  exact ⟨rfl, (Below.refl _ _).alloc (Nat.le_refl _) _⟩
set_option maxRecDepth 10000 in
theorem rd_now (a b n size : Int) (w : World) : Calls Try.prog 45 #[.agg #[.int .i64 4, .int .i64 a, .int .i64 b, .int .i64 n, .int .i64 size]] w fun e w' => e = .returned (.iface 109 (.agg #[.int .i64 a])) ∧ Below w.heap.size w w' := by
  go_enter Try.func45, Try.ntmps45
  go_wp2
  go_ret
  exact ⟨rfl, (Below.refl _ _).alloc (Nat.le_refl _) _⟩
set_option maxRecDepth 10000 in
theorem rd_sleep (a b n size : Int) (w : World) : Calls Try.prog 45 #[.agg #[.int .i64 5, .int .i64 a, .int .i64 b, .int .i64 n, .int .i64 size]] w fun e w' => e = .returned (.iface 110 (.agg #[.int .i64 a])) ∧ Below w.heap.size w w' := by
  go_enter Try.func45, Try.ntmps45
  go_wp2
  go_ret
  exact ⟨rfl, (Below.refl _ _).alloc (Nat.le_refl _) _⟩
set_option maxRecDepth 10000 in
theorem rd_yield (a b n size : Int) (w : World) : Calls Try.prog 45 #[.agg #[.int .i64 6, .int .i64 a, .int .i64 b, .int .i64 n, .int .i64 size]] w fun e w' => e = .returned (.iface 112 (.agg #[])) ∧ Below w.heap.size w w' := by
  go_enter Try.func45, Try.ntmps45
  go_wp2
  go_ret
  exact ⟨rfl, (Below.refl _ _).alloc (Nat.le_refl _) _⟩
set_option maxRecDepth 10000 in
theorem rd_spawn (a b n size : Int) (w : World) : Calls Try.prog 45 #[.agg #[.int .i64 7, .int .i64 a, .int .i64 b, .int .i64 n, .int .i64 size]] w fun e w' => e = .returned (.iface 114 (.agg #[.int .i64 a, .int .i64 b])) ∧ Below w.heap.size w w' := by
  go_enter Try.func45, Try.ntmps45
  go_wp2
  go_ret
  exact ⟨rfl, (Below.refl _ _).alloc (Nat.le_refl _) _⟩
set_option maxRecDepth 10000 in
theorem rd_wait (a b n size : Int) (w : World) : Calls Try.prog 45 #[.agg #[.int .i64 8, .int .i64 a, .int .i64 b, .int .i64 n, .int .i64 size]] w fun e w' => e = .returned (.iface 115 (.agg #[.int .i64 a])) ∧ Below w.heap.size w w' := by
  go_enter Try.func45, Try.ntmps45
  go_wp2
  go_ret
  exact ⟨rfl, (Below.refl _ _).alloc (Nat.le_refl _) _⟩
set_option maxRecDepth 10000 in
theorem rd_send (a b n size : Int) (w : World) : Calls Try.prog 45 #[.agg #[.int .i64 9, .int .i64 a, .int .i64 b, .int .i64 n, .int .i64 size]] w fun e w' => e = .returned (.iface 117 (.agg #[.int .i64 a, .int .i64 b])) ∧ Below w.heap.size w w' := by
  go_enter Try.func45, Try.ntmps45
  go_wp2
  go_ret
  exact ⟨rfl, (Below.refl _ _).alloc (Nat.le_refl _) _⟩
set_option maxRecDepth 10000 in
theorem rd_take (a b n size : Int) (w : World) : Calls Try.prog 45 #[.agg #[.int .i64 10, .int .i64 a, .int .i64 b, .int .i64 n, .int .i64 size]] w fun e w' => e = .returned (.iface 118 (.agg #[.int .i64 a, .int .i64 b])) ∧ Below w.heap.size w w' := by
  go_enter Try.func45, Try.ntmps45
  go_wp2
  go_ret
  exact ⟨rfl, (Below.refl _ _).alloc (Nat.le_refl _) _⟩
set_option maxRecDepth 10000 in
theorem rd_for (a b n size : Int) (w : World) : Calls Try.prog 45 #[.agg #[.int .i64 11, .int .i64 a, .int .i64 b, .int .i64 n, .int .i64 size]] w fun e w' => e = .returned (.iface 120 (.agg #[.int .i64 a, .int .i64 b, .int .i64 n])) ∧ Below w.heap.size w w' := by
  go_enter Try.func45, Try.ntmps45
  go_wp2
  go_ret
  exact ⟨rfl, (Below.refl _ _).alloc (Nat.le_refl _) _⟩
set_option maxRecDepth 10000 in
theorem rd_pick (a b n size : Int) (w : World) : Calls Try.prog 45 #[.agg #[.int .i64 12, .int .i64 a, .int .i64 b, .int .i64 n, .int .i64 size]] w fun e w' => e = .returned (.iface 122 (.agg #[.int .i64 a, .int .i64 b, .int .i64 n])) ∧ Below w.heap.size w w' := by
  go_enter Try.func45, Try.ntmps45
  go_wp2
  go_ret
  exact ⟨rfl, (Below.refl _ _).alloc (Nat.le_refl _) _⟩
set_option maxRecDepth 10000 in
theorem rd_close (a b n size : Int) (w : World) : Calls Try.prog 45 #[.agg #[.int .i64 13, .int .i64 a, .int .i64 b, .int .i64 n, .int .i64 size]] w fun e w' => e = .returned (.iface 124 (.agg #[.int .i64 b])) ∧ Below w.heap.size w w' := by
  go_enter Try.func45, Try.ntmps45
  go_wp2
  go_ret
  exact ⟨rfl, (Below.refl _ _).alloc (Nat.le_refl _) _⟩
set_option maxRecDepth 10000 in
theorem rd_end (a b n size : Int) (w : World) : Calls Try.prog 45 #[.agg #[.int .i64 14, .int .i64 a, .int .i64 b, .int .i64 n, .int .i64 size]] w fun e w' => e = .returned (.iface 125 (.agg #[])) ∧ Below w.heap.size w w' := by
  go_enter Try.func45, Try.ntmps45
  go_wp2
  go_ret
  exact ⟨rfl, (Below.refl _ _).alloc (Nat.le_refl _) _⟩
set_option maxRecDepth 10000 in
theorem rd_loop (a b n size : Int) (w : World) : Calls Try.prog 45 #[.agg #[.int .i64 15, .int .i64 a, .int .i64 b, .int .i64 n, .int .i64 size]] w fun e w' => e = .returned (.iface 127 (.agg #[.int .i64 a, .int .i64 size, .slice none 0 0])) ∧ Below w.heap.size w w' := by
  go_enter Try.func45, Try.ntmps45
  go_wp2
  go_ret
  exact ⟨rfl, (Below.refl _ _).alloc (Nat.le_refl _) _⟩
set_option maxRecDepth 10000 in
theorem rd_if (a b n size : Int) (w : World) : Calls Try.prog 45 #[.agg #[.int .i64 16, .int .i64 a, .int .i64 b, .int .i64 n, .int .i64 size]] w fun e w' => e = .returned (.iface 128 (.agg #[.int .i64 a, .int .i64 size, .slice none 0 0])) ∧ Below w.heap.size w w' := by
  go_enter Try.func45, Try.ntmps45
  go_wp2
  go_ret
  exact ⟨rfl, (Below.refl _ _).alloc (Nat.le_refl _) _⟩
set_option maxRecDepth 10000 in
theorem rd_no (op a b n size : Int) (w : World) (ho : op < 1 ∨ 16 < op) : Calls Try.prog 45 #[.agg #[.int .i64 op, .int .i64 a, .int .i64 b, .int .i64 n, .int .i64 size]] w fun e w' => e = .returned .nilIface ∧ Below w.heap.size w w' := by
  have g1 : (op == 1) = false := by simp; omega
  have g2 : (op == 2) = false := by simp; omega
  have g3 : (op == 3) = false := by simp; omega
  have g4 : (op == 4) = false := by simp; omega
  have g5 : (op == 5) = false := by simp; omega
  have g6 : (op == 6) = false := by simp; omega
  have g7 : (op == 7) = false := by simp; omega
  have g8 : (op == 8) = false := by simp; omega
  have g9 : (op == 9) = false := by simp; omega
  have g10 : (op == 10) = false := by simp; omega
  have g11 : (op == 11) = false := by simp; omega
  have g12 : (op == 12) = false := by simp; omega
  have g13 : (op == 13) = false := by simp; omega
  have g14 : (op == 14) = false := by simp; omega
  have g15 : (op == 15) = false := by simp; omega
  have g16 : (op == 16) = false := by simp; omega
  go_enter Try.func45, Try.ntmps45
  go_wp2
  go_ret
  exact ⟨rfl, (Below.refl _ _).alloc (Nat.le_refl _) _⟩
end Go.Proofs.Ytogfkahcpjibjaa
