import Derived.Test.YtogfkahcpjibjaaSz
import Derived.Test.YtogfkahcpjibjaaTo2
import Derived.Test.YtogfkahcpjibjaaEq
namespace Go.Proofs.Ytogfkahcpjibjaa
open Go.RowKit

theorem PlanV.low {lo lo' : Nat} {w : World} {v : Value} {p : PlanD} (h : PlanV lo w v p) (hl : lo' ≤ lo) : PlanV lo' w v p := by
  obtain ⟨v0, v1, rfl, h0, h1⟩ := h
  exact ⟨v0, v1, rfl, h0.low hl, h1.low hl⟩
theorem InputV.low {lo lo' : Nat} {w : World} {v : Value} {p : InputD} (h : InputV lo w v p) (hl : lo' ≤ lo) : InputV lo' w v p := by
  obtain ⟨v0, rfl, h0⟩ := h
  exact ⟨v0, rfl, h0.low hl⟩

/-- What the sizes' test leaves. -/
structure SmallP (p : PlanD) : Prop where
  len : p.bodies.length ≤ 1048576
  each : ∀ b ∈ p.bodies, b.length ≤ 1048576
  rooms : p.rooms.length ≤ 1048576

/-- toPlan, toInput in a later world. -/
theorem toPlan_from {v : Value} {p : PlanD} {w0 : World} (hv : PlanV 0 w0 v p) (hs : SmallP p) (w : World) (hb : Below w0.heap.size w0 w) :
    Calls Try.prog 7 #[v] w fun e w' => ∃ v', e = .returned v' ∧ PlanV 0 w' v' p ∧ Below w.heap.size w w' ∧ Below w0.heap.size w0 w' := by
  refine (toPlan_any v p w (hv.below hb) hs.len hs.each hs.rooms).mono ?_
  rintro e w' ⟨v', rfl, h, hbel⟩
  exact ⟨v', rfl, h.low (Nat.zero_le _), hbel, hb.trans (hbel.mono hb.size)⟩
theorem toInput_from {v : Value} {p : InputD} {w0 : World} (hv : InputV 0 w0 v p) (hs : p.feed.length ≤ 1048576) (w : World) (hb : Below w0.heap.size w0 w) :
    Calls Try.prog 13 #[v] w fun e w' => ∃ v', e = .returned v' ∧ InputV 0 w' v' p ∧ Below w.heap.size w w' ∧ Below w0.heap.size w0 w' := by
  refine (toInput_any v p w (hv.below hb) hs).mono ?_
  rintro e w' ⟨v', rfl, h, hbel⟩
  exact ⟨v', rfl, h.low (Nat.zero_le _), hbel, hb.trans (hbel.mono hb.size)⟩

end Go.Proofs.Ytogfkahcpjibjaa
