import Derived.Test.YtogfkahcpjibjaaShape
namespace Go.Proofs.Ytogfkahcpjibjaa
open Go.RowKit
set_option linter.unusedSimpArgs false
set_option linter.unusedVariables false
/-- The value that a step is read into: an interface value, by its op. -/
def deedX (s : StepD) : Value :=
  if s.op = 1 then .agg #[.int .i64 s.a, .int .i64 s.n]
  else if s.op = 2 then .agg #[.int .i64 s.a, .int .i64 s.b, .int .i64 s.n]
  else if s.op = 3 then .agg #[.int .i64 s.a]
  else if s.op = 4 then .agg #[.int .i64 s.a]
  else if s.op = 5 then .agg #[.int .i64 s.a]
  else if s.op = 6 then .agg #[]
  else if s.op = 7 then .agg #[.int .i64 s.a, .int .i64 s.b]
  else if s.op = 8 then .agg #[.int .i64 s.a]
  else if s.op = 9 then .agg #[.int .i64 s.a, .int .i64 s.b]
  else if s.op = 10 then .agg #[.int .i64 s.a, .int .i64 s.b]
  else if s.op = 11 then .agg #[.int .i64 s.a, .int .i64 s.b, .int .i64 s.n]
  else if s.op = 12 then .agg #[.int .i64 s.a, .int .i64 s.b, .int .i64 s.n]
  else if s.op = 13 then .agg #[.int .i64 s.b]
  else if s.op = 14 then .agg #[]
  else if s.op = 15 then .agg #[.int .i64 s.a, .int .i64 s.size, .slice none 0 0]
  else if s.op = 16 then .agg #[.int .i64 s.a, .int .i64 s.size, .slice none 0 0]
  else .agg #[]
def deedT (s : StepD) : Nat :=
  if s.op = 1 then 104
  else if s.op = 2 then 106
  else if s.op = 3 then 108
  else if s.op = 4 then 109
  else if s.op = 5 then 110
  else if s.op = 6 then 112
  else if s.op = 7 then 114
  else if s.op = 8 then 115
  else if s.op = 9 then 117
  else if s.op = 10 then 118
  else if s.op = 11 then 120
  else if s.op = 12 then 122
  else if s.op = 13 then 124
  else if s.op = 14 then 125
  else if s.op = 15 then 127
  else if s.op = 16 then 128
  else 0
/-- The step that a deed is written as. -/
def backD (s : StepD) : StepD :=
  if s.op = 1 then ⟨1, s.a, 0, s.n, 0⟩
  else if s.op = 2 then ⟨2, s.a, s.b, s.n, 0⟩
  else if s.op = 3 then ⟨3, s.a, 0, 0, 0⟩
  else if s.op = 4 then ⟨4, s.a, 0, 0, 0⟩
  else if s.op = 5 then ⟨5, s.a, 0, 0, 0⟩
  else if s.op = 6 then ⟨6, 0, 0, 0, 0⟩
  else if s.op = 7 then ⟨7, s.a, s.b, 0, 0⟩
  else if s.op = 8 then ⟨8, s.a, 0, 0, 0⟩
  else if s.op = 9 then ⟨9, s.a, s.b, 0, 0⟩
  else if s.op = 10 then ⟨10, s.a, s.b, 0, 0⟩
  else if s.op = 11 then ⟨11, s.a, s.b, s.n, 0⟩
  else if s.op = 12 then ⟨12, s.a, s.b, s.n, 0⟩
  else if s.op = 13 then ⟨13, 0, s.b, 0, 0⟩
  else if s.op = 14 then ⟨14, 0, 0, 0, 0⟩
  else if s.op = 15 then ⟨15, s.a, 0, 0, s.size⟩
  else if s.op = 16 then ⟨16, s.a, 0, 0, s.size⟩
  else s
def StepD.val (s : StepD) : Value := .agg #[.int .i64 s.op, .int .i64 s.a, .int .i64 s.b, .int .i64 s.n, .int .i64 s.size]
theorem as_set (a n : Int) (w : World) : Calls Try.prog 68 #[.agg #[.int .i64 a, .int .i64 n]] w fun x w' => x = .returned (.agg #[.int .i64 1, .int .i64 a, .int .i64 0, .int .i64 n, .int .i64 0]) ∧ Below w.heap.size w w' := by
  go_enter Try.func68, Try.ntmps68
  go_wp2
  exact bodyPost_ret (v := .agg #[.int .i64 1, .int .i64 a, .int .i64 0, .int .i64 n, .int .i64 0]) (by simp [results, Try.results68, go_sem]) rfl ⟨rfl, ((Below.refl _ _).alloc (Nat.le_refl _) _).alloc (by simp) _⟩
theorem as_add (a b n : Int) (w : World) : Calls Try.prog 69 #[.agg #[.int .i64 a, .int .i64 b, .int .i64 n]] w fun x w' => x = .returned (.agg #[.int .i64 2, .int .i64 a, .int .i64 b, .int .i64 n, .int .i64 0]) ∧ Below w.heap.size w w' := by
  go_enter Try.func69, Try.ntmps69
  go_wp2
  exact bodyPost_ret (v := .agg #[.int .i64 2, .int .i64 a, .int .i64 b, .int .i64 n, .int .i64 0]) (by simp [results, Try.results69, go_sem]) rfl ⟨rfl, ((Below.refl _ _).alloc (Nat.le_refl _) _).alloc (by simp) _⟩
theorem as_say (a : Int) (w : World) : Calls Try.prog 70 #[.agg #[.int .i64 a]] w fun x w' => x = .returned (.agg #[.int .i64 3, .int .i64 a, .int .i64 0, .int .i64 0, .int .i64 0]) ∧ Below w.heap.size w w' := by
  go_enter Try.func70, Try.ntmps70
  go_wp2
  exact bodyPost_ret (v := .agg #[.int .i64 3, .int .i64 a, .int .i64 0, .int .i64 0, .int .i64 0]) (by simp [results, Try.results70, go_sem]) rfl ⟨rfl, ((Below.refl _ _).alloc (Nat.le_refl _) _).alloc (by simp) _⟩
theorem as_now (a : Int) (w : World) : Calls Try.prog 71 #[.agg #[.int .i64 a]] w fun x w' => x = .returned (.agg #[.int .i64 4, .int .i64 a, .int .i64 0, .int .i64 0, .int .i64 0]) ∧ Below w.heap.size w w' := by
  go_enter Try.func71, Try.ntmps71
  go_wp2
  exact bodyPost_ret (v := .agg #[.int .i64 4, .int .i64 a, .int .i64 0, .int .i64 0, .int .i64 0]) (by simp [results, Try.results71, go_sem]) rfl ⟨rfl, ((Below.refl _ _).alloc (Nat.le_refl _) _).alloc (by simp) _⟩
theorem as_sleep (a : Int) (w : World) : Calls Try.prog 72 #[.agg #[.int .i64 a]] w fun x w' => x = .returned (.agg #[.int .i64 5, .int .i64 a, .int .i64 0, .int .i64 0, .int .i64 0]) ∧ Below w.heap.size w w' := by
  go_enter Try.func72, Try.ntmps72
  go_wp2
  exact bodyPost_ret (v := .agg #[.int .i64 5, .int .i64 a, .int .i64 0, .int .i64 0, .int .i64 0]) (by simp [results, Try.results72, go_sem]) rfl ⟨rfl, ((Below.refl _ _).alloc (Nat.le_refl _) _).alloc (by simp) _⟩
theorem as_yield  (w : World) : Calls Try.prog 73 #[.agg #[]] w fun x w' => x = .returned (.agg #[.int .i64 6, .int .i64 0, .int .i64 0, .int .i64 0, .int .i64 0]) ∧ Below w.heap.size w w' := by
  go_enter Try.func73, Try.ntmps73
  go_wp2
  exact bodyPost_ret (v := .agg #[.int .i64 6, .int .i64 0, .int .i64 0, .int .i64 0, .int .i64 0]) (by simp [results, Try.results73, go_sem]) rfl ⟨rfl, ((Below.refl _ _).alloc (Nat.le_refl _) _).alloc (by simp) _⟩
theorem as_spawn (a b : Int) (w : World) : Calls Try.prog 74 #[.agg #[.int .i64 a, .int .i64 b]] w fun x w' => x = .returned (.agg #[.int .i64 7, .int .i64 a, .int .i64 b, .int .i64 0, .int .i64 0]) ∧ Below w.heap.size w w' := by
  go_enter Try.func74, Try.ntmps74
  go_wp2
  exact bodyPost_ret (v := .agg #[.int .i64 7, .int .i64 a, .int .i64 b, .int .i64 0, .int .i64 0]) (by simp [results, Try.results74, go_sem]) rfl ⟨rfl, ((Below.refl _ _).alloc (Nat.le_refl _) _).alloc (by simp) _⟩
theorem as_wait (a : Int) (w : World) : Calls Try.prog 75 #[.agg #[.int .i64 a]] w fun x w' => x = .returned (.agg #[.int .i64 8, .int .i64 a, .int .i64 0, .int .i64 0, .int .i64 0]) ∧ Below w.heap.size w w' := by
  go_enter Try.func75, Try.ntmps75
  go_wp2
  exact bodyPost_ret (v := .agg #[.int .i64 8, .int .i64 a, .int .i64 0, .int .i64 0, .int .i64 0]) (by simp [results, Try.results75, go_sem]) rfl ⟨rfl, ((Below.refl _ _).alloc (Nat.le_refl _) _).alloc (by simp) _⟩
theorem as_send (a b : Int) (w : World) : Calls Try.prog 76 #[.agg #[.int .i64 a, .int .i64 b]] w fun x w' => x = .returned (.agg #[.int .i64 9, .int .i64 a, .int .i64 b, .int .i64 0, .int .i64 0]) ∧ Below w.heap.size w w' := by
  go_enter Try.func76, Try.ntmps76
  go_wp2
  exact bodyPost_ret (v := .agg #[.int .i64 9, .int .i64 a, .int .i64 b, .int .i64 0, .int .i64 0]) (by simp [results, Try.results76, go_sem]) rfl ⟨rfl, ((Below.refl _ _).alloc (Nat.le_refl _) _).alloc (by simp) _⟩
theorem as_take (a b : Int) (w : World) : Calls Try.prog 77 #[.agg #[.int .i64 a, .int .i64 b]] w fun x w' => x = .returned (.agg #[.int .i64 10, .int .i64 a, .int .i64 b, .int .i64 0, .int .i64 0]) ∧ Below w.heap.size w w' := by
  go_enter Try.func77, Try.ntmps77
  go_wp2
  exact bodyPost_ret (v := .agg #[.int .i64 10, .int .i64 a, .int .i64 b, .int .i64 0, .int .i64 0]) (by simp [results, Try.results77, go_sem]) rfl ⟨rfl, ((Below.refl _ _).alloc (Nat.le_refl _) _).alloc (by simp) _⟩
theorem as_for (a b n : Int) (w : World) : Calls Try.prog 78 #[.agg #[.int .i64 a, .int .i64 b, .int .i64 n]] w fun x w' => x = .returned (.agg #[.int .i64 11, .int .i64 a, .int .i64 b, .int .i64 n, .int .i64 0]) ∧ Below w.heap.size w w' := by
  go_enter Try.func78, Try.ntmps78
  go_wp2
  exact bodyPost_ret (v := .agg #[.int .i64 11, .int .i64 a, .int .i64 b, .int .i64 n, .int .i64 0]) (by simp [results, Try.results78, go_sem]) rfl ⟨rfl, ((Below.refl _ _).alloc (Nat.le_refl _) _).alloc (by simp) _⟩
theorem as_pick (a b n : Int) (w : World) : Calls Try.prog 79 #[.agg #[.int .i64 a, .int .i64 b, .int .i64 n]] w fun x w' => x = .returned (.agg #[.int .i64 12, .int .i64 a, .int .i64 b, .int .i64 n, .int .i64 0]) ∧ Below w.heap.size w w' := by
  go_enter Try.func79, Try.ntmps79
  go_wp2
  exact bodyPost_ret (v := .agg #[.int .i64 12, .int .i64 a, .int .i64 b, .int .i64 n, .int .i64 0]) (by simp [results, Try.results79, go_sem]) rfl ⟨rfl, ((Below.refl _ _).alloc (Nat.le_refl _) _).alloc (by simp) _⟩
theorem as_close (b : Int) (w : World) : Calls Try.prog 80 #[.agg #[.int .i64 b]] w fun x w' => x = .returned (.agg #[.int .i64 13, .int .i64 0, .int .i64 b, .int .i64 0, .int .i64 0]) ∧ Below w.heap.size w w' := by
  go_enter Try.func80, Try.ntmps80
  go_wp2
  exact bodyPost_ret (v := .agg #[.int .i64 13, .int .i64 0, .int .i64 b, .int .i64 0, .int .i64 0]) (by simp [results, Try.results80, go_sem]) rfl ⟨rfl, ((Below.refl _ _).alloc (Nat.le_refl _) _).alloc (by simp) _⟩
theorem as_end  (w : World) : Calls Try.prog 81 #[.agg #[]] w fun x w' => x = .returned (.agg #[.int .i64 14, .int .i64 0, .int .i64 0, .int .i64 0, .int .i64 0]) ∧ Below w.heap.size w w' := by
  go_enter Try.func81, Try.ntmps81
  go_wp2
  exact bodyPost_ret (v := .agg #[.int .i64 14, .int .i64 0, .int .i64 0, .int .i64 0, .int .i64 0]) (by simp [results, Try.results81, go_sem]) rfl ⟨rfl, ((Below.refl _ _).alloc (Nat.le_refl _) _).alloc (by simp) _⟩
theorem as_loop (a size : Int) (blk : Value) (hblk : ∃ x n c, blk = .slice x n c) (w : World) : Calls Try.prog 82 #[.agg #[.int .i64 a, .int .i64 size, blk]] w fun x w' => x = .returned (.agg #[.int .i64 15, .int .i64 a, .int .i64 0, .int .i64 0, .int .i64 size]) ∧ Below w.heap.size w w' := by
  obtain ⟨x, n, c, rfl⟩ := hblk
  go_enter Try.func82, Try.ntmps82
  go_wp2
  exact bodyPost_ret (v := .agg #[.int .i64 15, .int .i64 a, .int .i64 0, .int .i64 0, .int .i64 size]) (by simp [results, Try.results82, go_sem]) rfl ⟨rfl, ((Below.refl _ _).alloc (Nat.le_refl _) _).alloc (by simp) _⟩
theorem as_if (a size : Int) (blk : Value) (hblk : ∃ x n c, blk = .slice x n c) (w : World) : Calls Try.prog 83 #[.agg #[.int .i64 a, .int .i64 size, blk]] w fun x w' => x = .returned (.agg #[.int .i64 16, .int .i64 a, .int .i64 0, .int .i64 0, .int .i64 size]) ∧ Below w.heap.size w w' := by
  obtain ⟨x, n, c, rfl⟩ := hblk
  go_enter Try.func83, Try.ntmps83
  go_wp2
  exact bodyPost_ret (v := .agg #[.int .i64 16, .int .i64 a, .int .i64 0, .int .i64 0, .int .i64 size]) (by simp [results, Try.results83, go_sem]) rfl ⟨rfl, ((Below.refl _ _).alloc (Nat.le_refl _) _).alloc (by simp) _⟩
end Go.Proofs.Ytogfkahcpjibjaa
