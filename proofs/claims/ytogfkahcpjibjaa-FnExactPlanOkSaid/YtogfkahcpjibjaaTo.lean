import Derived.Test.YtogfkahcpjibjaaRows
import Derived.Test.YtogfkahcpjibjaaData
import Derived.WalkKit
import Derived.WalkSpells
namespace Go.Proofs.Ytogfkahcpjibjaa
open Go.RowKit

/-- laws.toStep, toEvent: a copy. -/
theorem toStep_any (a b c d e : Int) (w : World) :
    Calls Try.prog 50 #[.agg #[.int .i64 a, .int .i64 b, .int .i64 c, .int .i64 d, .int .i64 e]] w fun x w' => x = .returned (.agg #[.int .i64 a, .int .i64 b, .int .i64 c, .int .i64 d, .int .i64 e]) ∧ Below w.heap.size w w' := by
  go_enter Try.func50, Try.ntmps50
  go_wp2
  exact bodyPost_ret (v := .agg #[.int .i64 a, .int .i64 b, .int .i64 c, .int .i64 d, .int .i64 e]) (by simp [results, Try.results50, go_sem]) rfl ⟨rfl, (((Below.refl _ _).alloc (Nat.le_refl _) _).alloc (by simp) _).alloc (by simp; omega) _⟩
theorem toEvent_any (a b c : Int) (w : World) :
    Calls Try.prog 39 #[.agg #[.int .i64 a, .int .i64 b, .int .i64 c]] w fun x w' => x = .returned (.agg #[.int .i64 a, .int .i64 b, .int .i64 c]) ∧ Below w.heap.size w w' := by
  go_enter Try.func39, Try.ntmps39
  go_wp2
  exact bodyPost_ret (v := .agg #[.int .i64 a, .int .i64 b, .int .i64 c]) (by simp [results, Try.results39, go_sem]) rfl ⟨rfl, (((Below.refl _ _).alloc (Nat.le_refl _) _).alloc (by simp) _).alloc (by simp; omega) _⟩

theorem info55 : (Try.prog.info? 55).map (fun i => (i.zero, i.size, i.bytes)) = some (some (.agg #[.int .i64 0, .int .i64 0, .int .i64 0, .int .i64 0, .int .i64 0]), 5, 40) := by kernel_rfl

def stepZeros (n : Nat) : Array Value := madeCells #[.int .i64 0, .int .i64 0, .int .i64 0, .int .i64 0, .int .i64 0] (n * 5)
theorem make_steps (n : Nat) (hn : n ≤ 1048576) (u : World) : (Instr.makeSlice 51 (.int .i64 (n : Int)) (.int .i64 (n : Int))).run Try.prog u =
      .ok (.slice (some ⟨u.heap.size, 0, none⟩) n n) (u.alloc (.cells (stepZeros n) 55)) := by
  obtain ⟨i0, hi, hz0, hz1, hz2⟩ := info_parts info55
  have h := run_make (P := Try.prog) u 51 55 i0 _ Try.underlying51 hi hz0 .i64 .i64 (n : Int) (n : Int) (by omega) (Int.le_refl _) (by rw [hz2]; omega) (by omega)
  simpa [hz1, Value.cells, stepZeros] using h

theorem toStepS_any (v : Value) (l : List StepD) (w : World) {lo : Nat} (hv : Steps lo w v l) (hlen : l.length ≤ 1048576) :
    Calls Try.prog 43 #[v] w fun e w' => ∃ v', e = .returned v' ∧ Steps w.heap.size w' v' l ∧ Below w.heap.size w w' := by
  obtain ⟨ao, cap, rfl, hc⟩ := hv
  have hmk := make_steps l.length hlen
  go_enter Try.func43, Try.ntmps43
  go_wp2
  clear hmk
  go_loopw [4] (fun i wr => ∃ k : Nat, k ≤ l.length ∧ i = .int .i64 k ∧ Filled 5 (CellsOf StepD.cells) w wr w.heap.size l k) (fun i _ => l.length - (intOf i).toNat)
  case atStart => exact ⟨0, Nat.zero_le _, rfl, filled_start (by simp [stepZeros, size_madeCells]) (Below.refl _ _)⟩
  case round =>
    obtain ⟨k, hk, rfl, hf⟩ := hrel
    by_cases hlt : k < l.length
    · obtain ⟨b, off, rfl, _, hb, hcc⟩ := hc (by omega)
      obtain ⟨c0, c1, c2, c3, c4⟩ := step_cells (rangeAt_below hf.below (hcc k hlt) hb)
      obtain ⟨s, hs⟩ : ∃ s, s = l[k]'hlt := ⟨_, rfl⟩
      rw [← hs] at c0 c1 c2 c3 c4
      have HS : Hid (s = l[k]'hlt) := hs
      have HF : Hid (Filled 5 (CellsOf StepD.cells) w wr w.heap.size l k) := hf
      have hlt' := hf.lt
      clear hc hcc hs hf
      go_wp2_with fail
      refine (toStep_any _ _ _ _ _ _).mono ?_
      rintro e w' ⟨rfl, hbel⟩
      have hth := there_below hbel (HF.out.mid hlt) hlt'
      obtain ⟨⟨x0, d0⟩, f0⟩ := there_at hth 0 (by omega)
      obtain ⟨⟨x1, d1⟩, f1⟩ := there_at hth 1 (by omega)
      obtain ⟨⟨x2, d2⟩, f2⟩ := there_at hth 2 (by omega)
      obtain ⟨⟨x3, d3⟩, f3⟩ := there_at hth 3 (by omega)
      obtain ⟨⟨x4, d4⟩, f4⟩ := there_at hth 4 (by omega)
      simp only [Nat.add_zero] at d0 f0
      have HB : Hid (Below wr.heap.size wr w') := hbel
      clear hbel hth c0 c1 c2 c3 c4
      go_wp2
      go_roundw
      case rel =>
        refine ⟨k + 1, by omega, by go_num, ?_⟩
        have h := Filled.cells (cells := StepD.cells) (size := 5) (fun _ => rfl) HF.out hlt HB.out
        rw [← HS.out] at h
        exact h
      case measure => simp [intOf]; omega
    · clear hc
      have HF : Hid (Filled 5 (CellsOf StepD.cells) w wr w.heap.size l k) := hf
      clear hf
      go_wp2
      go_ret
      exact ⟨_, rfl, HF.out.slice (by omega) _, HF.out.below⟩

theorem info68 : (Try.prog.info? 68).map (fun i => (i.zero, i.size, i.bytes)) = some (some (.agg #[.int .i64 0, .int .i64 0, .int .i64 0]), 3, 24) := by kernel_rfl
def eventZeros (n : Nat) : Array Value := madeCells #[.int .i64 0, .int .i64 0, .int .i64 0] (n * 3)
theorem make_events (n : Nat) (hn : n ≤ 1048576) (u : World) : (Instr.makeSlice 42 (.int .i64 (n : Int)) (.int .i64 (n : Int))).run Try.prog u =
      .ok (.slice (some ⟨u.heap.size, 0, none⟩) n n) (u.alloc (.cells (eventZeros n) 68)) := by
  obtain ⟨i0, hi, hz0, hz1, hz2⟩ := info_parts info68
  have h := run_make (P := Try.prog) u 42 68 i0 _ Try.underlying42 hi hz0 .i64 .i64 (n : Int) (n : Int) (by omega) (Int.le_refl _) (by rw [hz2]; omega) (by omega)
  simpa [hz1, Value.cells, eventZeros] using h

theorem toEventS_any (v : Value) (l : List EventD) (w : World) {lo : Nat} (hv : Events lo w v l) (hlen : l.length ≤ 1048576) :
    Calls Try.prog 27 #[v] w fun e w' => ∃ v', e = .returned v' ∧ Events w.heap.size w' v' l ∧ Below w.heap.size w w' := by
  obtain ⟨ao, cap, rfl, hc⟩ := hv
  have hmk := make_events l.length hlen
  go_enter Try.func27, Try.ntmps27
  go_wp2
  clear hmk
  go_loopw [4] (fun i wr => ∃ k : Nat, k ≤ l.length ∧ i = .int .i64 k ∧ Filled 3 (CellsOf EventD.cells) w wr w.heap.size l k) (fun i _ => l.length - (intOf i).toNat)
  case atStart => exact ⟨0, Nat.zero_le _, rfl, filled_start (by simp [eventZeros, size_madeCells]) (Below.refl _ _)⟩
  case round =>
    obtain ⟨k, hk, rfl, hf⟩ := hrel
    by_cases hlt : k < l.length
    · obtain ⟨b, off, rfl, _, hb, hcc⟩ := hc (by omega)
      obtain ⟨c0, c1, c2⟩ := event_cells (rangeAt_below hf.below (hcc k hlt) hb)
      obtain ⟨s, hs⟩ : ∃ s, s = l[k]'hlt := ⟨_, rfl⟩
      rw [← hs] at c0 c1 c2
      have HS : Hid (s = l[k]'hlt) := hs
      have HF : Hid (Filled 3 (CellsOf EventD.cells) w wr w.heap.size l k) := hf
      have hlt' := hf.lt
      clear hc hcc hs hf
      go_wp2_with fail
      refine (toEvent_any _ _ _ _).mono ?_
      rintro e w' ⟨rfl, hbel⟩
      have hth := there_below hbel (HF.out.mid hlt) hlt'
      obtain ⟨⟨x0, d0⟩, f0⟩ := there_at hth 0 (by omega)
      obtain ⟨⟨x1, d1⟩, f1⟩ := there_at hth 1 (by omega)
      obtain ⟨⟨x2, d2⟩, f2⟩ := there_at hth 2 (by omega)
      simp only [Nat.add_zero] at d0 f0
      have HB : Hid (Below wr.heap.size wr w') := hbel
      clear hbel hth c0 c1 c2
      go_wp2
      go_roundw
      case rel =>
        refine ⟨k + 1, by omega, by go_num, ?_⟩
        have h := Filled.cells (cells := EventD.cells) (size := 3) (fun _ => rfl) HF.out hlt HB.out
        rw [← HS.out] at h
        exact h
      case measure => simp [intOf]; omega
    · clear hc
      have HF : Hid (Filled 3 (CellsOf EventD.cells) w wr w.heap.size l k) := hf
      clear hf
      go_wp2
      go_ret
      exact ⟨_, rfl, HF.out.slice (by omega) _, HF.out.below⟩

theorem info3 : (Try.prog.info? 3).map (fun i => (i.zero, i.size, i.bytes)) = some (some (.int .i64 0), 1, 8) := by kernel_rfl
theorem toIntS_any (v : Value) (l : List Int) (w : World) {lo : Nat} (hv : Ints lo w v l) (hlen : l.length ≤ 1048576) :
    Calls Try.prog 22 #[v] w fun e w' => ∃ v', e = .returned v' ∧ Ints w.heap.size w' v' l ∧ Below w.heap.size w w' := by
  obtain ⟨ao, cap, rfl, hc⟩ := hv
  have hmk := run_make_row' (P := Try.prog) 23 3 (.int .i64 0) 8 Try.underlying23 info3 rfl .i64 .i64 l.length (by omega) (by omega)
  go_enter Try.func22, Try.ntmps22
  go_wp2
  clear hmk
  go_loopw [4] (fun i wr => ∃ k : Nat, k ≤ l.length ∧ i = .int .i64 k ∧ Filled 1 (CellsOf intCells) w wr w.heap.size l k) (fun i _ => l.length - (intOf i).toNat)
  case atStart => exact ⟨0, Nat.zero_le _, rfl, filled_start (by simp [size_madeCells]) (Below.refl _ _)⟩
  case round =>
    obtain ⟨k, hk, rfl, hf⟩ := hrel
    by_cases hlt : k < l.length
    · obtain ⟨b, off, rfl, _, hb, hcc⟩ := hc (by omega)
      have c0 := (rangeAt_below hf.below (hcc k hlt) hb) 0 _ rfl
      obtain ⟨s, hs⟩ : ∃ s, s = l[k]'hlt := ⟨_, rfl⟩
      rw [← hs, Nat.mul_one, Nat.add_zero] at c0
      have hth := hf.mid hlt
      obtain ⟨⟨x0, d0⟩, f0⟩ := there_at hth 0 (by omega)
      simp only [Nat.add_zero, Nat.mul_one] at d0 f0
      have HS : Hid (s = l[k]'hlt) := hs
      have HF : Hid (Filled 1 (CellsOf intCells) w wr w.heap.size l k) := hf
      have hlt' := hf.lt
      clear hc hcc hs hf hth
      go_wp2
      go_roundw
      case rel =>
        refine ⟨k + 1, by omega, by go_num, ?_⟩
        have h := Filled.cells (cells := intCells) (size := 1) (fun _ => rfl) HF.out hlt (Below.refl _ _)
        rw [← HS.out, Nat.mul_one] at h
        exact h
      case measure => simp [intOf]; omega
    · clear hc
      have HF : Hid (Filled 1 (CellsOf intCells) w wr w.heap.size l k) := hf
      clear hf
      go_wp2
      go_ret
      exact ⟨_, rfl, HF.out.slice (by omega) _, HF.out.below⟩
end Go.Proofs.Ytogfkahcpjibjaa
