import Derived.Test.YtogfkahcpjibjaaFitsA
import Derived.Test.YtogfkahcpjibjaaFitsB
import Derived.Test.YtogfkahcpjibjaaFitsC
import Derived.Test.YtogfkahcpjibjaaRead
namespace Go.Proofs.Ytogfkahcpjibjaa
open Go.RowKit
set_option linter.unusedSimpArgs false
set_option linter.unusedVariables false
theorem meth_set (n : Nat) (v : Value) (w : World) : (method (n + 1) 104 v "loop.example/beat/impl.asStep").run Try.prog w = .ok (68, v) w := by kernel_rfl
theorem meth_add (n : Nat) (v : Value) (w : World) : (method (n + 1) 106 v "loop.example/beat/impl.asStep").run Try.prog w = .ok (69, v) w := by kernel_rfl
theorem meth_say (n : Nat) (v : Value) (w : World) : (method (n + 1) 108 v "loop.example/beat/impl.asStep").run Try.prog w = .ok (70, v) w := by kernel_rfl
theorem meth_now (n : Nat) (v : Value) (w : World) : (method (n + 1) 109 v "loop.example/beat/impl.asStep").run Try.prog w = .ok (71, v) w := by kernel_rfl
theorem meth_sleep (n : Nat) (v : Value) (w : World) : (method (n + 1) 110 v "loop.example/beat/impl.asStep").run Try.prog w = .ok (72, v) w := by kernel_rfl
theorem meth_yield (n : Nat) (v : Value) (w : World) : (method (n + 1) 112 v "loop.example/beat/impl.asStep").run Try.prog w = .ok (73, v) w := by kernel_rfl
theorem meth_spawn (n : Nat) (v : Value) (w : World) : (method (n + 1) 114 v "loop.example/beat/impl.asStep").run Try.prog w = .ok (74, v) w := by kernel_rfl
theorem meth_wait (n : Nat) (v : Value) (w : World) : (method (n + 1) 115 v "loop.example/beat/impl.asStep").run Try.prog w = .ok (75, v) w := by kernel_rfl
theorem meth_send (n : Nat) (v : Value) (w : World) : (method (n + 1) 117 v "loop.example/beat/impl.asStep").run Try.prog w = .ok (76, v) w := by kernel_rfl
theorem meth_take (n : Nat) (v : Value) (w : World) : (method (n + 1) 118 v "loop.example/beat/impl.asStep").run Try.prog w = .ok (77, v) w := by kernel_rfl
theorem meth_for (n : Nat) (v : Value) (w : World) : (method (n + 1) 120 v "loop.example/beat/impl.asStep").run Try.prog w = .ok (78, v) w := by kernel_rfl
theorem meth_pick (n : Nat) (v : Value) (w : World) : (method (n + 1) 122 v "loop.example/beat/impl.asStep").run Try.prog w = .ok (79, v) w := by kernel_rfl
theorem meth_close (n : Nat) (v : Value) (w : World) : (method (n + 1) 124 v "loop.example/beat/impl.asStep").run Try.prog w = .ok (80, v) w := by kernel_rfl
theorem meth_end (n : Nat) (v : Value) (w : World) : (method (n + 1) 125 v "loop.example/beat/impl.asStep").run Try.prog w = .ok (81, v) w := by kernel_rfl
theorem meth_loop (n : Nat) (v : Value) (w : World) : (method (n + 1) 127 v "loop.example/beat/impl.asStep").run Try.prog w = .ok (82, v) w := by kernel_rfl
theorem meth_if (n : Nat) (v : Value) (w : World) : (method (n + 1) 128 v "loop.example/beat/impl.asStep").run Try.prog w = .ok (83, v) w := by kernel_rfl
/-- What a deed names is there. -/
def fitB (nb nr : Nat) (s : StepD) : Bool :=
  if s.op = 1 then regB s.a
  else if s.op = 2 then regB s.a && regB s.b
  else if s.op = 3 then regB s.a
  else if s.op = 4 then regB s.a
  else if s.op = 5 then regB s.a
  else if s.op = 6 then true
  else if s.op = 7 then regB s.a && chanB nb s.b
  else if s.op = 8 then regB s.a
  else if s.op = 9 then regB s.a && chanB nr s.b
  else if s.op = 10 then regB s.a && chanB nr s.b
  else if s.op = 11 then regB s.a && chanB nr s.b && inB 0 s.n 1000000
  else if s.op = 12 then regB s.a && chanB nr s.b && chanB nr s.n
  else if s.op = 13 then chanB nr s.b
  else if s.op = 14 then true
  else if s.op = 15 then regB s.a && decide (0 ≤ s.size)
  else if s.op = 16 then regB s.a && decide (0 ≤ s.size)
  else false
def sameB (r s : StepD) : Bool := (r.op == s.op) && (r.a == s.a) && (r.b == s.b) && (r.n == s.n) && (r.size == s.size)

structure DeedOk (s : StepD) (T : TypeId) (x : Value) (F : Nat) : Prop where
  meth : ∀ n w, (method (n + 1) T x "loop.example/beat/impl.asStep").run Try.prog w = .ok (F, x) w
  back : ∀ w, Calls Try.prog F #[x] w fun e w' => e = .returned (.agg #[.int .i64 (backD s).op, .int .i64 (backD s).a, .int .i64 (backD s).b, .int .i64 (backD s).n, .int .i64 (backD s).size]) ∧ Below w.heap.size w w'
  fits : ∀ nb a0 c0 a1 nr c1 sl w, Calls Try.prog 46 #[.iface T x, .agg #[.slice a0 nb c0, .slice a1 nr c1, .int .i64 sl]] w fun e w' => e = .returned (.bool (fitB nb nr s)) ∧ Below w.heap.size w w'
  read : ∀ w, Calls Try.prog 45 #[.agg #[.int .i64 s.op, .int .i64 s.a, .int .i64 s.b, .int .i64 s.n, .int .i64 s.size]] w fun e w' => e = .returned (.iface T x) ∧ Below w.heap.size w w'
  one : (Value.iface T x).oneCell' = true
  call : ∀ (args : Array Value) (w : World), (callFunc F args).run Try.prog w = .ok (.enter F args) w

theorem ok_set (a b n size : Int) : DeedOk ⟨1, a, b, n, size⟩ 104 (.agg #[.int .i64 a, .int .i64 n]) 68 :=
  ⟨fun _ _ => meth_set _ _ _, fun w => as_set a n w, fun nb a0 c0 a1 nr c1 sl w => fits_set nb a0 c0 a1 nr c1 sl a n w, fun w => rd_set a b n size w, rfl, fun _ _ => by kernel_rfl⟩
theorem ok_add (a b n size : Int) : DeedOk ⟨2, a, b, n, size⟩ 106 (.agg #[.int .i64 a, .int .i64 b, .int .i64 n]) 69 :=
  ⟨fun _ _ => meth_add _ _ _, fun w => as_add a b n w, fun nb a0 c0 a1 nr c1 sl w => fits_add nb a0 c0 a1 nr c1 sl a b n w, fun w => rd_add a b n size w, rfl, fun _ _ => by kernel_rfl⟩
theorem ok_say (a b n size : Int) : DeedOk ⟨3, a, b, n, size⟩ 108 (.agg #[.int .i64 a]) 70 :=
  ⟨fun _ _ => meth_say _ _ _, fun w => as_say a w, fun nb a0 c0 a1 nr c1 sl w => fits_say nb a0 c0 a1 nr c1 sl a w, fun w => rd_say a b n size w, rfl, fun _ _ => by kernel_rfl⟩
theorem ok_now (a b n size : Int) : DeedOk ⟨4, a, b, n, size⟩ 109 (.agg #[.int .i64 a]) 71 :=
  ⟨fun _ _ => meth_now _ _ _, fun w => as_now a w, fun nb a0 c0 a1 nr c1 sl w => fits_now nb a0 c0 a1 nr c1 sl a w, fun w => rd_now a b n size w, rfl, fun _ _ => by kernel_rfl⟩
theorem ok_sleep (a b n size : Int) : DeedOk ⟨5, a, b, n, size⟩ 110 (.agg #[.int .i64 a]) 72 :=
  ⟨fun _ _ => meth_sleep _ _ _, fun w => as_sleep a w, fun nb a0 c0 a1 nr c1 sl w => fits_sleep nb a0 c0 a1 nr c1 sl a w, fun w => rd_sleep a b n size w, rfl, fun _ _ => by kernel_rfl⟩
theorem ok_yield (a b n size : Int) : DeedOk ⟨6, a, b, n, size⟩ 112 (.agg #[]) 73 :=
  ⟨fun _ _ => meth_yield _ _ _, fun w => as_yield  w, fun nb a0 c0 a1 nr c1 sl w => fits_yield nb a0 c0 a1 nr c1 sl  w, fun w => rd_yield a b n size w, rfl, fun _ _ => by kernel_rfl⟩
theorem ok_spawn (a b n size : Int) : DeedOk ⟨7, a, b, n, size⟩ 114 (.agg #[.int .i64 a, .int .i64 b]) 74 :=
  ⟨fun _ _ => meth_spawn _ _ _, fun w => as_spawn a b w, fun nb a0 c0 a1 nr c1 sl w => fits_spawn nb a0 c0 a1 nr c1 sl a b w, fun w => rd_spawn a b n size w, rfl, fun _ _ => by kernel_rfl⟩
theorem ok_wait (a b n size : Int) : DeedOk ⟨8, a, b, n, size⟩ 115 (.agg #[.int .i64 a]) 75 :=
  ⟨fun _ _ => meth_wait _ _ _, fun w => as_wait a w, fun nb a0 c0 a1 nr c1 sl w => fits_wait nb a0 c0 a1 nr c1 sl a w, fun w => rd_wait a b n size w, rfl, fun _ _ => by kernel_rfl⟩
theorem ok_send (a b n size : Int) : DeedOk ⟨9, a, b, n, size⟩ 117 (.agg #[.int .i64 a, .int .i64 b]) 76 :=
  ⟨fun _ _ => meth_send _ _ _, fun w => as_send a b w, fun nb a0 c0 a1 nr c1 sl w => fits_send nb a0 c0 a1 nr c1 sl a b w, fun w => rd_send a b n size w, rfl, fun _ _ => by kernel_rfl⟩
theorem ok_take (a b n size : Int) : DeedOk ⟨10, a, b, n, size⟩ 118 (.agg #[.int .i64 a, .int .i64 b]) 77 :=
  ⟨fun _ _ => meth_take _ _ _, fun w => as_take a b w, fun nb a0 c0 a1 nr c1 sl w => fits_take nb a0 c0 a1 nr c1 sl a b w, fun w => rd_take a b n size w, rfl, fun _ _ => by kernel_rfl⟩
theorem ok_for (a b n size : Int) : DeedOk ⟨11, a, b, n, size⟩ 120 (.agg #[.int .i64 a, .int .i64 b, .int .i64 n]) 78 :=
  ⟨fun _ _ => meth_for _ _ _, fun w => as_for a b n w, fun nb a0 c0 a1 nr c1 sl w => fits_for nb a0 c0 a1 nr c1 sl a b n w, fun w => rd_for a b n size w, rfl, fun _ _ => by kernel_rfl⟩
theorem ok_pick (a b n size : Int) : DeedOk ⟨12, a, b, n, size⟩ 122 (.agg #[.int .i64 a, .int .i64 b, .int .i64 n]) 79 :=
  ⟨fun _ _ => meth_pick _ _ _, fun w => as_pick a b n w, fun nb a0 c0 a1 nr c1 sl w => fits_pick nb a0 c0 a1 nr c1 sl a b n w, fun w => rd_pick a b n size w, rfl, fun _ _ => by kernel_rfl⟩
theorem ok_close (a b n size : Int) : DeedOk ⟨13, a, b, n, size⟩ 124 (.agg #[.int .i64 b]) 80 :=
  ⟨fun _ _ => meth_close _ _ _, fun w => as_close b w, fun nb a0 c0 a1 nr c1 sl w => fits_close nb a0 c0 a1 nr c1 sl b w, fun w => rd_close a b n size w, rfl, fun _ _ => by kernel_rfl⟩
theorem ok_end (a b n size : Int) : DeedOk ⟨14, a, b, n, size⟩ 125 (.agg #[]) 81 :=
  ⟨fun _ _ => meth_end _ _ _, fun w => as_end  w, fun nb a0 c0 a1 nr c1 sl w => fits_end nb a0 c0 a1 nr c1 sl  w, fun w => rd_end a b n size w, rfl, fun _ _ => by kernel_rfl⟩
theorem ok_loop (a b n size : Int) : DeedOk ⟨15, a, b, n, size⟩ 127 (.agg #[.int .i64 a, .int .i64 size, .slice none 0 0]) 82 :=
  ⟨fun _ _ => meth_loop _ _ _, fun w => as_loop a size _ ⟨_, _, _, rfl⟩ w, fun nb a0 c0 a1 nr c1 sl w => fits_loop nb a0 c0 a1 nr c1 sl a size w, fun w => rd_loop a b n size w, rfl, fun _ _ => by kernel_rfl⟩
theorem ok_if (a b n size : Int) : DeedOk ⟨16, a, b, n, size⟩ 128 (.agg #[.int .i64 a, .int .i64 size, .slice none 0 0]) 83 :=
  ⟨fun _ _ => meth_if _ _ _, fun w => as_if a size _ ⟨_, _, _, rfl⟩ w, fun nb a0 c0 a1 nr c1 sl w => fits_if nb a0 c0 a1 nr c1 sl a size w, fun w => rd_if a b n size w, rfl, fun _ _ => by kernel_rfl⟩

theorem deed_ok (s : StepD) (h1 : 1 ≤ s.op) (h2 : s.op ≤ 16) : ∃ F, DeedOk s (deedT s) (deedX s) F := by
  obtain ⟨op, a, b, n, size⟩ := s
  by_cases h11 : op = 1
  · subst h11; exact ⟨_, ok_set a b n size⟩
  by_cases h12 : op = 2
  · subst h12; exact ⟨_, ok_add a b n size⟩
  by_cases h13 : op = 3
  · subst h13; exact ⟨_, ok_say a b n size⟩
  by_cases h14 : op = 4
  · subst h14; exact ⟨_, ok_now a b n size⟩
  by_cases h15 : op = 5
  · subst h15; exact ⟨_, ok_sleep a b n size⟩
  by_cases h16 : op = 6
  · subst h16; exact ⟨_, ok_yield a b n size⟩
  by_cases h17 : op = 7
  · subst h17; exact ⟨_, ok_spawn a b n size⟩
  by_cases h18 : op = 8
  · subst h18; exact ⟨_, ok_wait a b n size⟩
  by_cases h19 : op = 9
  · subst h19; exact ⟨_, ok_send a b n size⟩
  by_cases h20 : op = 10
  · subst h20; exact ⟨_, ok_take a b n size⟩
  by_cases h21 : op = 11
  · subst h21; exact ⟨_, ok_for a b n size⟩
  by_cases h22 : op = 12
  · subst h22; exact ⟨_, ok_pick a b n size⟩
  by_cases h23 : op = 13
  · subst h23; exact ⟨_, ok_close a b n size⟩
  by_cases h24 : op = 14
  · subst h24; exact ⟨_, ok_end a b n size⟩
  by_cases h25 : op = 15
  · subst h25; exact ⟨_, ok_loop a b n size⟩
  by_cases h26 : op = 16
  · subst h26; exact ⟨_, ok_if a b n size⟩
  exact absurd h2 (by simp at h1 h2 ⊢; omega)

theorem zero_beq (x : Int) : ((0 : Int) == x) = (x == 0) := by
  rw [Bool.eq_iff_iff]; simp; omega
theorem shape_fit (nb nr : Nat) (s : StepD) (h1 : 1 ≤ s.op) (h2 : s.op ≤ 16) : shapeB nb nr s = (sameB (backD s) s && fitB nb nr s) := by
  obtain ⟨op, a, b, n, size⟩ := s
  by_cases h11 : op = 1
  · subst h11; simp [shapeB, sameB, backD, fitB, zeroB, inB, chanB, regB, Bool.and_assoc, Bool.and_comm, Bool.and_left_comm, zero_beq]
  by_cases h12 : op = 2
  · subst h12; simp [shapeB, sameB, backD, fitB, zeroB, inB, chanB, regB, Bool.and_assoc, Bool.and_comm, Bool.and_left_comm, zero_beq]
  by_cases h13 : op = 3
  · subst h13; simp [shapeB, sameB, backD, fitB, zeroB, inB, chanB, regB, Bool.and_assoc, Bool.and_comm, Bool.and_left_comm, zero_beq]
  by_cases h14 : op = 4
  · subst h14; simp [shapeB, sameB, backD, fitB, zeroB, inB, chanB, regB, Bool.and_assoc, Bool.and_comm, Bool.and_left_comm, zero_beq]
  by_cases h15 : op = 5
  · subst h15; simp [shapeB, sameB, backD, fitB, zeroB, inB, chanB, regB, Bool.and_assoc, Bool.and_comm, Bool.and_left_comm, zero_beq]
  by_cases h16 : op = 6
  · subst h16; simp [shapeB, sameB, backD, fitB, zeroB, inB, chanB, regB, Bool.and_assoc, Bool.and_comm, Bool.and_left_comm, zero_beq]
  by_cases h17 : op = 7
  · subst h17; simp [shapeB, sameB, backD, fitB, zeroB, inB, chanB, regB, Bool.and_assoc, Bool.and_comm, Bool.and_left_comm, zero_beq]
  by_cases h18 : op = 8
  · subst h18; simp [shapeB, sameB, backD, fitB, zeroB, inB, chanB, regB, Bool.and_assoc, Bool.and_comm, Bool.and_left_comm, zero_beq]
  by_cases h19 : op = 9
  · subst h19; simp [shapeB, sameB, backD, fitB, zeroB, inB, chanB, regB, Bool.and_assoc, Bool.and_comm, Bool.and_left_comm, zero_beq]
  by_cases h20 : op = 10
  · subst h20; simp [shapeB, sameB, backD, fitB, zeroB, inB, chanB, regB, Bool.and_assoc, Bool.and_comm, Bool.and_left_comm, zero_beq]
  by_cases h21 : op = 11
  · subst h21; simp [shapeB, sameB, backD, fitB, zeroB, inB, chanB, regB, Bool.and_assoc, Bool.and_comm, Bool.and_left_comm, zero_beq]
  by_cases h22 : op = 12
  · subst h22; simp [shapeB, sameB, backD, fitB, zeroB, inB, chanB, regB, Bool.and_assoc, Bool.and_comm, Bool.and_left_comm, zero_beq]
  by_cases h23 : op = 13
  · subst h23; simp [shapeB, sameB, backD, fitB, zeroB, inB, chanB, regB, Bool.and_assoc, Bool.and_comm, Bool.and_left_comm, zero_beq]
  by_cases h24 : op = 14
  · subst h24; simp [shapeB, sameB, backD, fitB, zeroB, inB, chanB, regB, Bool.and_assoc, Bool.and_comm, Bool.and_left_comm, zero_beq]
  by_cases h25 : op = 15
  · subst h25; simp [shapeB, sameB, backD, fitB, zeroB, inB, chanB, regB, Bool.and_assoc, Bool.and_comm, Bool.and_left_comm, zero_beq]
  by_cases h26 : op = 16
  · subst h26; simp [shapeB, sameB, backD, fitB, zeroB, inB, chanB, regB, Bool.and_assoc, Bool.and_comm, Bool.and_left_comm, zero_beq]
  exact absurd h2 (by simp at h1 h2 ⊢; omega)
theorem shape_none (nb nr : Nat) (s : StepD) (h : ¬ (1 ≤ s.op ∧ s.op ≤ 16)) : shapeB nb nr s = false := by
  unfold shapeB
  repeat rw [if_neg (by omega)]
end Go.Proofs.Ytogfkahcpjibjaa
