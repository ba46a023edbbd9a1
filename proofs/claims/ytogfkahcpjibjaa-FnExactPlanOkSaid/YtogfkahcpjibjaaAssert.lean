import Derived.Test.YtogfkahcpjibjaaDeed
namespace Go.Proofs.Ytogfkahcpjibjaa
open Go.RowKit
set_option linter.unusedSimpArgs false
set_option linter.unusedVariables false
@[go_sem] theorem asY_set (w : World) (v : Value) : (Instr.typeAssert (.iface 104 v) 93 104 true).run Try.prog w = .ok (.tuple #[v, .bool true]) w := by kernel_rfl
theorem zero_set (w : World) : (do pure (Value.tuple #[← zeroValue 104, .bool false]) : Sem Value).run Try.prog w = .ok (.tuple #[.agg #[.int .i64 0, .int .i64 0], .bool false]) w := by kernel_rfl
@[go_sem] theorem asN_set (w : World) (u : TypeId) (v : Value) (h : u ≠ 104) : (Instr.typeAssert (.iface u v) 93 104 true).run Try.prog w = .ok (.tuple #[.agg #[.int .i64 0, .int .i64 0], .bool false]) w := by
  have e : (Instr.typeAssert (.iface u v) 93 104 true).run Try.prog w = (if u = 104 then (pure (Value.tuple #[v, .bool true]) : Sem Value) else (do pure (Value.tuple #[← zeroValue 104, .bool false]))).run Try.prog w := by kernel_rfl
  rw [e, if_neg h]; exact zero_set w
@[go_sem] theorem asY_add (w : World) (v : Value) : (Instr.typeAssert (.iface 106 v) 93 106 true).run Try.prog w = .ok (.tuple #[v, .bool true]) w := by kernel_rfl
theorem zero_add (w : World) : (do pure (Value.tuple #[← zeroValue 106, .bool false]) : Sem Value).run Try.prog w = .ok (.tuple #[.agg #[.int .i64 0, .int .i64 0, .int .i64 0], .bool false]) w := by kernel_rfl
@[go_sem] theorem asN_add (w : World) (u : TypeId) (v : Value) (h : u ≠ 106) : (Instr.typeAssert (.iface u v) 93 106 true).run Try.prog w = .ok (.tuple #[.agg #[.int .i64 0, .int .i64 0, .int .i64 0], .bool false]) w := by
  have e : (Instr.typeAssert (.iface u v) 93 106 true).run Try.prog w = (if u = 106 then (pure (Value.tuple #[v, .bool true]) : Sem Value) else (do pure (Value.tuple #[← zeroValue 106, .bool false]))).run Try.prog w := by kernel_rfl
  rw [e, if_neg h]; exact zero_add w
@[go_sem] theorem asY_say (w : World) (v : Value) : (Instr.typeAssert (.iface 108 v) 93 108 true).run Try.prog w = .ok (.tuple #[v, .bool true]) w := by kernel_rfl
theorem zero_say (w : World) : (do pure (Value.tuple #[← zeroValue 108, .bool false]) : Sem Value).run Try.prog w = .ok (.tuple #[.agg #[.int .i64 0], .bool false]) w := by kernel_rfl
@[go_sem] theorem asN_say (w : World) (u : TypeId) (v : Value) (h : u ≠ 108) : (Instr.typeAssert (.iface u v) 93 108 true).run Try.prog w = .ok (.tuple #[.agg #[.int .i64 0], .bool false]) w := by
  have e : (Instr.typeAssert (.iface u v) 93 108 true).run Try.prog w = (if u = 108 then (pure (Value.tuple #[v, .bool true]) : Sem Value) else (do pure (Value.tuple #[← zeroValue 108, .bool false]))).run Try.prog w := by kernel_rfl
  rw [e, if_neg h]; exact zero_say w
@[go_sem] theorem asY_now (w : World) (v : Value) : (Instr.typeAssert (.iface 109 v) 93 109 true).run Try.prog w = .ok (.tuple #[v, .bool true]) w := by kernel_rfl
theorem zero_now (w : World) : (do pure (Value.tuple #[← zeroValue 109, .bool false]) : Sem Value).run Try.prog w = .ok (.tuple #[.agg #[.int .i64 0], .bool false]) w := by kernel_rfl
@[go_sem] theorem asN_now (w : World) (u : TypeId) (v : Value) (h : u ≠ 109) : (Instr.typeAssert (.iface u v) 93 109 true).run Try.prog w = .ok (.tuple #[.agg #[.int .i64 0], .bool false]) w := by
  have e : (Instr.typeAssert (.iface u v) 93 109 true).run Try.prog w = (if u = 109 then (pure (Value.tuple #[v, .bool true]) : Sem Value) else (do pure (Value.tuple #[← zeroValue 109, .bool false]))).run Try.prog w := by kernel_rfl
  rw [e, if_neg h]; exact zero_now w
@[go_sem] theorem asY_sleep (w : World) (v : Value) : (Instr.typeAssert (.iface 110 v) 93 110 true).run Try.prog w = .ok (.tuple #[v, .bool true]) w := by kernel_rfl
theorem zero_sleep (w : World) : (do pure (Value.tuple #[← zeroValue 110, .bool false]) : Sem Value).run Try.prog w = .ok (.tuple #[.agg #[.int .i64 0], .bool false]) w := by kernel_rfl
@[go_sem] theorem asN_sleep (w : World) (u : TypeId) (v : Value) (h : u ≠ 110) : (Instr.typeAssert (.iface u v) 93 110 true).run Try.prog w = .ok (.tuple #[.agg #[.int .i64 0], .bool false]) w := by
  have e : (Instr.typeAssert (.iface u v) 93 110 true).run Try.prog w = (if u = 110 then (pure (Value.tuple #[v, .bool true]) : Sem Value) else (do pure (Value.tuple #[← zeroValue 110, .bool false]))).run Try.prog w := by kernel_rfl
  rw [e, if_neg h]; exact zero_sleep w
@[go_sem] theorem asY_yield (w : World) (v : Value) : (Instr.typeAssert (.iface 112 v) 93 112 true).run Try.prog w = .ok (.tuple #[v, .bool true]) w := by kernel_rfl
theorem zero_yield (w : World) : (do pure (Value.tuple #[← zeroValue 112, .bool false]) : Sem Value).run Try.prog w = .ok (.tuple #[.agg #[], .bool false]) w := by kernel_rfl
@[go_sem] theorem asN_yield (w : World) (u : TypeId) (v : Value) (h : u ≠ 112) : (Instr.typeAssert (.iface u v) 93 112 true).run Try.prog w = .ok (.tuple #[.agg #[], .bool false]) w := by
  have e : (Instr.typeAssert (.iface u v) 93 112 true).run Try.prog w = (if u = 112 then (pure (Value.tuple #[v, .bool true]) : Sem Value) else (do pure (Value.tuple #[← zeroValue 112, .bool false]))).run Try.prog w := by kernel_rfl
  rw [e, if_neg h]; exact zero_yield w
@[go_sem] theorem asY_spawn (w : World) (v : Value) : (Instr.typeAssert (.iface 114 v) 93 114 true).run Try.prog w = .ok (.tuple #[v, .bool true]) w := by kernel_rfl
theorem zero_spawn (w : World) : (do pure (Value.tuple #[← zeroValue 114, .bool false]) : Sem Value).run Try.prog w = .ok (.tuple #[.agg #[.int .i64 0, .int .i64 0], .bool false]) w := by kernel_rfl
@[go_sem] theorem asN_spawn (w : World) (u : TypeId) (v : Value) (h : u ≠ 114) : (Instr.typeAssert (.iface u v) 93 114 true).run Try.prog w = .ok (.tuple #[.agg #[.int .i64 0, .int .i64 0], .bool false]) w := by
  have e : (Instr.typeAssert (.iface u v) 93 114 true).run Try.prog w = (if u = 114 then (pure (Value.tuple #[v, .bool true]) : Sem Value) else (do pure (Value.tuple #[← zeroValue 114, .bool false]))).run Try.prog w := by kernel_rfl
  rw [e, if_neg h]; exact zero_spawn w
@[go_sem] theorem asY_wait (w : World) (v : Value) : (Instr.typeAssert (.iface 115 v) 93 115 true).run Try.prog w = .ok (.tuple #[v, .bool true]) w := by kernel_rfl
theorem zero_wait (w : World) : (do pure (Value.tuple #[← zeroValue 115, .bool false]) : Sem Value).run Try.prog w = .ok (.tuple #[.agg #[.int .i64 0], .bool false]) w := by kernel_rfl
@[go_sem] theorem asN_wait (w : World) (u : TypeId) (v : Value) (h : u ≠ 115) : (Instr.typeAssert (.iface u v) 93 115 true).run Try.prog w = .ok (.tuple #[.agg #[.int .i64 0], .bool false]) w := by
  have e : (Instr.typeAssert (.iface u v) 93 115 true).run Try.prog w = (if u = 115 then (pure (Value.tuple #[v, .bool true]) : Sem Value) else (do pure (Value.tuple #[← zeroValue 115, .bool false]))).run Try.prog w := by kernel_rfl
  rw [e, if_neg h]; exact zero_wait w
@[go_sem] theorem asY_send (w : World) (v : Value) : (Instr.typeAssert (.iface 117 v) 93 117 true).run Try.prog w = .ok (.tuple #[v, .bool true]) w := by kernel_rfl
theorem zero_send (w : World) : (do pure (Value.tuple #[← zeroValue 117, .bool false]) : Sem Value).run Try.prog w = .ok (.tuple #[.agg #[.int .i64 0, .int .i64 0], .bool false]) w := by kernel_rfl
@[go_sem] theorem asN_send (w : World) (u : TypeId) (v : Value) (h : u ≠ 117) : (Instr.typeAssert (.iface u v) 93 117 true).run Try.prog w = .ok (.tuple #[.agg #[.int .i64 0, .int .i64 0], .bool false]) w := by
  have e : (Instr.typeAssert (.iface u v) 93 117 true).run Try.prog w = (if u = 117 then (pure (Value.tuple #[v, .bool true]) : Sem Value) else (do pure (Value.tuple #[← zeroValue 117, .bool false]))).run Try.prog w := by kernel_rfl
  rw [e, if_neg h]; exact zero_send w
@[go_sem] theorem asY_take (w : World) (v : Value) : (Instr.typeAssert (.iface 118 v) 93 118 true).run Try.prog w = .ok (.tuple #[v, .bool true]) w := by kernel_rfl
theorem zero_take (w : World) : (do pure (Value.tuple #[← zeroValue 118, .bool false]) : Sem Value).run Try.prog w = .ok (.tuple #[.agg #[.int .i64 0, .int .i64 0], .bool false]) w := by kernel_rfl
@[go_sem] theorem asN_take (w : World) (u : TypeId) (v : Value) (h : u ≠ 118) : (Instr.typeAssert (.iface u v) 93 118 true).run Try.prog w = .ok (.tuple #[.agg #[.int .i64 0, .int .i64 0], .bool false]) w := by
  have e : (Instr.typeAssert (.iface u v) 93 118 true).run Try.prog w = (if u = 118 then (pure (Value.tuple #[v, .bool true]) : Sem Value) else (do pure (Value.tuple #[← zeroValue 118, .bool false]))).run Try.prog w := by kernel_rfl
  rw [e, if_neg h]; exact zero_take w
@[go_sem] theorem asY_for (w : World) (v : Value) : (Instr.typeAssert (.iface 120 v) 93 120 true).run Try.prog w = .ok (.tuple #[v, .bool true]) w := by kernel_rfl
theorem zero_for (w : World) : (do pure (Value.tuple #[← zeroValue 120, .bool false]) : Sem Value).run Try.prog w = .ok (.tuple #[.agg #[.int .i64 0, .int .i64 0, .int .i64 0], .bool false]) w := by kernel_rfl
@[go_sem] theorem asN_for (w : World) (u : TypeId) (v : Value) (h : u ≠ 120) : (Instr.typeAssert (.iface u v) 93 120 true).run Try.prog w = .ok (.tuple #[.agg #[.int .i64 0, .int .i64 0, .int .i64 0], .bool false]) w := by
  have e : (Instr.typeAssert (.iface u v) 93 120 true).run Try.prog w = (if u = 120 then (pure (Value.tuple #[v, .bool true]) : Sem Value) else (do pure (Value.tuple #[← zeroValue 120, .bool false]))).run Try.prog w := by kernel_rfl
  rw [e, if_neg h]; exact zero_for w
@[go_sem] theorem asY_pick (w : World) (v : Value) : (Instr.typeAssert (.iface 122 v) 93 122 true).run Try.prog w = .ok (.tuple #[v, .bool true]) w := by kernel_rfl
theorem zero_pick (w : World) : (do pure (Value.tuple #[← zeroValue 122, .bool false]) : Sem Value).run Try.prog w = .ok (.tuple #[.agg #[.int .i64 0, .int .i64 0, .int .i64 0], .bool false]) w := by kernel_rfl
@[go_sem] theorem asN_pick (w : World) (u : TypeId) (v : Value) (h : u ≠ 122) : (Instr.typeAssert (.iface u v) 93 122 true).run Try.prog w = .ok (.tuple #[.agg #[.int .i64 0, .int .i64 0, .int .i64 0], .bool false]) w := by
  have e : (Instr.typeAssert (.iface u v) 93 122 true).run Try.prog w = (if u = 122 then (pure (Value.tuple #[v, .bool true]) : Sem Value) else (do pure (Value.tuple #[← zeroValue 122, .bool false]))).run Try.prog w := by kernel_rfl
  rw [e, if_neg h]; exact zero_pick w
@[go_sem] theorem asY_close (w : World) (v : Value) : (Instr.typeAssert (.iface 124 v) 93 124 true).run Try.prog w = .ok (.tuple #[v, .bool true]) w := by kernel_rfl
theorem zero_close (w : World) : (do pure (Value.tuple #[← zeroValue 124, .bool false]) : Sem Value).run Try.prog w = .ok (.tuple #[.agg #[.int .i64 0], .bool false]) w := by kernel_rfl
@[go_sem] theorem asN_close (w : World) (u : TypeId) (v : Value) (h : u ≠ 124) : (Instr.typeAssert (.iface u v) 93 124 true).run Try.prog w = .ok (.tuple #[.agg #[.int .i64 0], .bool false]) w := by
  have e : (Instr.typeAssert (.iface u v) 93 124 true).run Try.prog w = (if u = 124 then (pure (Value.tuple #[v, .bool true]) : Sem Value) else (do pure (Value.tuple #[← zeroValue 124, .bool false]))).run Try.prog w := by kernel_rfl
  rw [e, if_neg h]; exact zero_close w
@[go_sem] theorem asY_end (w : World) (v : Value) : (Instr.typeAssert (.iface 125 v) 93 125 true).run Try.prog w = .ok (.tuple #[v, .bool true]) w := by kernel_rfl
theorem zero_end (w : World) : (do pure (Value.tuple #[← zeroValue 125, .bool false]) : Sem Value).run Try.prog w = .ok (.tuple #[.agg #[], .bool false]) w := by kernel_rfl
@[go_sem] theorem asN_end (w : World) (u : TypeId) (v : Value) (h : u ≠ 125) : (Instr.typeAssert (.iface u v) 93 125 true).run Try.prog w = .ok (.tuple #[.agg #[], .bool false]) w := by
  have e : (Instr.typeAssert (.iface u v) 93 125 true).run Try.prog w = (if u = 125 then (pure (Value.tuple #[v, .bool true]) : Sem Value) else (do pure (Value.tuple #[← zeroValue 125, .bool false]))).run Try.prog w := by kernel_rfl
  rw [e, if_neg h]; exact zero_end w
@[go_sem] theorem asY_loop (w : World) (v : Value) : (Instr.typeAssert (.iface 127 v) 93 127 true).run Try.prog w = .ok (.tuple #[v, .bool true]) w := by kernel_rfl
theorem zero_loop (w : World) : (do pure (Value.tuple #[← zeroValue 127, .bool false]) : Sem Value).run Try.prog w = .ok (.tuple #[.agg #[.int .i64 0, .int .i64 0, .slice none 0 0], .bool false]) w := by kernel_rfl
@[go_sem] theorem asN_loop (w : World) (u : TypeId) (v : Value) (h : u ≠ 127) : (Instr.typeAssert (.iface u v) 93 127 true).run Try.prog w = .ok (.tuple #[.agg #[.int .i64 0, .int .i64 0, .slice none 0 0], .bool false]) w := by
  have e : (Instr.typeAssert (.iface u v) 93 127 true).run Try.prog w = (if u = 127 then (pure (Value.tuple #[v, .bool true]) : Sem Value) else (do pure (Value.tuple #[← zeroValue 127, .bool false]))).run Try.prog w := by kernel_rfl
  rw [e, if_neg h]; exact zero_loop w
@[go_sem] theorem asY_if (w : World) (v : Value) : (Instr.typeAssert (.iface 128 v) 93 128 true).run Try.prog w = .ok (.tuple #[v, .bool true]) w := by kernel_rfl
theorem zero_if (w : World) : (do pure (Value.tuple #[← zeroValue 128, .bool false]) : Sem Value).run Try.prog w = .ok (.tuple #[.agg #[.int .i64 0, .int .i64 0, .slice none 0 0], .bool false]) w := by kernel_rfl
@[go_sem] theorem asN_if (w : World) (u : TypeId) (v : Value) (h : u ≠ 128) : (Instr.typeAssert (.iface u v) 93 128 true).run Try.prog w = .ok (.tuple #[.agg #[.int .i64 0, .int .i64 0, .slice none 0 0], .bool false]) w := by
  have e : (Instr.typeAssert (.iface u v) 93 128 true).run Try.prog w = (if u = 128 then (pure (Value.tuple #[v, .bool true]) : Sem Value) else (do pure (Value.tuple #[← zeroValue 128, .bool false]))).run Try.prog w := by kernel_rfl
  rw [e, if_neg h]; exact zero_if w
end Go.Proofs.Ytogfkahcpjibjaa
