import Derived.Test.YtogfkahcpjibjaaReadPlan
namespace Go.Proofs.Ytogfkahcpjibjaa
open Go.RowKit

/-- impl.PlanOk. -/
theorem implPlanOk_any (u : Value) (p : PlanD) (w : World) {lo : Nat} (hp : PlanV lo w u p) (hlen : p.bodies.length ≤ 1048576) (hlb : ∀ b ∈ p.bodies, b.length ≤ 1048576) (hlr : p.rooms.length ≤ 1048576) :
    Calls Try.prog 8 #[u] w fun e w' => e = .returned (.agg #[.int .i64 (faultD p).1, .int .i64 (faultD p).2.1, .int .i64 (faultD p).2.2]) ∧ Below w.heap.size w w' := by
  have HP := hid hp
  obtain ⟨u0, u1, rfl, hB, hI⟩ := hp
  obtain ⟨a0, c0, rfl, _⟩ := hB
  obtain ⟨a1, c1, rfl, _⟩ := hI
  obtain ⟨W, hW⟩ : ∃ W, W = (w.alloc (.cells #[.slice a0 p.bodies.length c0, .slice a1 p.rooms.length c1, .int .i64 p.slice] 32)).alloc (.cells #[.int .i64 0, .int .i64 0, .int .i64 0] 28) := ⟨_, rfl⟩
  have hbW : Below w.heap.size w W := by rw [hW]; exact ((Below.refl _ _).alloc (Nat.le_refl _) _).alloc (by simp) _
  have hsW : W.heap.size = w.heap.size + 1 + 1 := by rw [hW]; simp
  have hc1 : ∀ o, W.cell? ⟨w.heap.size + 1, o, none⟩ = #[Value.int .i64 0, .int .i64 0, .int .i64 0][o]? := by intro o; rw [hW]; simp [go_sem]
  have hf1 : ∀ o, W.frozen? ⟨w.heap.size + 1, o, none⟩ = false := by intro o; rw [hW]; simp [go_sem]
  have HBW := hid hbW
  have HLB := hid hlb
  clear hbW hlb
  go_enter Try.func8, Try.ntmps8
  go_wp2_with fail
  rw [← hW]
  clear hW
  refine (readPlan_any _ p _ (HP.out.below HBW.out) hlen HLB.out hlr).mono ?_
  rintro e w1 ⟨⟨x1, x2, x3, rfl⟩, hb1⟩
  have hz1 := hb1.size
  have hcB1 : ∀ o, w1.cell? ⟨w.heap.size + 1, o, none⟩ = #[Value.int .i64 0, .int .i64 0, .int .i64 0][o]? := fun o => by rw [hb1.cell (p := ⟨w.heap.size + 1, o, none⟩) (by show w.heap.size + 1 < _; omega)]; exact hc1 o
  have hfB1 : ∀ o, w1.frozen? ⟨w.heap.size + 1, o, none⟩ = false := fun o => by rw [hb1.frozen (p := ⟨w.heap.size + 1, o, none⟩) (by show w.heap.size + 1 < _; omega)]; exact hf1 o
  have hzb : w.heap.size + 1 < w1.heap.size := by omega
  have HN1 : Hid (Below W.heap.size W w1) := hb1
  clear hb1
  go_wp2
  exact bodyPost_ret (v := .agg #[.int .i64 (faultD p).1, .int .i64 (faultD p).2.1, .int .i64 (faultD p).2.2]) (by simp [results, Try.results8, go_sem, hcB1, hzb]) rfl ⟨rfl,
    HBW.out.trans ((((HN1.out.mono (B' := w.heap.size) (by omega)).setCell (p := ⟨w.heap.size + 1, 0, none⟩) (by show w.heap.size ≤ w.heap.size + 1; omega) _).setCell (p := ⟨w.heap.size + 1, 1, none⟩) (by show w.heap.size ≤ w.heap.size + 1; omega) _).setCell (p := ⟨w.heap.size + 1, 2, none⟩) (by show w.heap.size ≤ w.heap.size + 1; omega) _ |>.alloc (by simp [World.setCell]; omega) _)⟩

/-- laws.eqFault, at equals. -/
theorem eqFault_any (a b c : Int) (w : World) :
    Calls Try.prog 9 #[.agg #[.int .i64 a, .int .i64 b, .int .i64 c], .agg #[.int .i64 a, .int .i64 b, .int .i64 c]] w fun x w' => x = .returned (.bool true) ∧ Below w.heap.size w w' := by
  go_enter Try.func9, Try.ntmps9
  go_wp2
  go_ret
  exact ⟨rfl, ((Below.refl _ _).alloc (Nat.le_refl _) _).alloc (by simp) _⟩
end Go.Proofs.Ytogfkahcpjibjaa
