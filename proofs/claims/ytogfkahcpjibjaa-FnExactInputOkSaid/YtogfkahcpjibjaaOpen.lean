import Derived.Test.YtogfkahcpjibjaaRows
import Derived.Test.YtogfkahcpjibjaaData
import Derived.ProofKit
import Derived.Deep.Slices
import Derived.Lib.SmallJoins
namespace Go.Proofs.Ytogfkahcpjibjaa
open Go.ChangeShapes Go.WideShapes Go.ChangeAt Go.RowKit Go.Deep Go.Joins

theorem own : ownKnob Try.prog.godebug = none := by kernel_rfl
theorem laidOut : laidOutB Try.prog = true := by kernel_rfl

theorem lt_of_cell {w : World} {a : Addr} {v : Value} (h : w.cell? a = some v) : a.block < w.heap.size := by
  rcases Nat.lt_or_ge a.block w.heap.size with h' | h'
  · exact h'
  · simp [World.cell?, Array.getElem?_eq_none h'] at h

section
variable {H : Type} {enc : TypeId × Value → H} {P : Program} {w : World} {spare : Nat → Bool} {held : Bool}

/-- A slice that is read: its elements, each by what its own reading gives. -/
theorem open_list {α : Type} (dflt : α) {t e : TypeId} {size fuel : Nat} {cs : List Value} {x : DataW H × List MemPlace} {E : World → Nat → Nat → α → Prop} {Q : α → Prop} (ht : P.underlying t = some (.slice e)) (hc : P.cellsOf e = size) (h0 : 0 < size)
    (hE : ∀ fuel cs x, DataW.trod enc P w 0 spare held fuel e cs = some x → ∃ y : α, (∀ b o, w.rangeAt b o cs → E w b o y) ∧ Q y)
    (h : DataW.trod enc P w 0 spare held fuel t cs = some x) :
    ∃ (v : Value) (l : List α), cs = [v] ∧ SliceAt 0 size E w v l ∧ l.length ≤ 9223372036854775807 ∧ ∀ y ∈ l, Q y := by
  rcases open_slice ht h with ⟨rfl, _⟩ | ⟨a, len, cap, m, n, D, Pl, rfl, _, hl, hm, hmm, _, hx⟩
  · exact ⟨_, [], rfl, ⟨_, _, rfl, fun h => absurd h (by simp)⟩, by simp, fun y hy => by cases hy⟩
  have hlm : len ≤ m := by rw [hmm]; split <;> omega
  have key : ∀ i, i < len → ∃ y : α, (∀ b o, a = ⟨b, o, none⟩ → E w b (o + i * size) y) ∧ Q y ∧ ∃ v, w.cell? (a.add (i * size)) = some v := fun i hi => by
    obtain ⟨cs', h1, h2⟩ := hx i (by omega)
    rw [hc] at h1
    obtain ⟨_, hlen, hcell⟩ := World.cells?_some h1
    obtain ⟨y, hy, hq⟩ := hE _ _ _ h2
    refine ⟨y, fun b o ha => hy b _ (fun j v hv => ?_), hq, ?_⟩
    · have hj : j < size := by
        rcases Nat.lt_or_ge j size with h' | h'
        · exact h'
        · rw [List.getElem?_eq_none (by omega)] at hv; cases hv
      have := hcell j hj
      rw [ha, add_plain, add_plain] at this
      rw [this, hv]
    · have := hcell 0 h0
      rw [show (a.add (i * size)).add 0 = a.add (i * size) by simp [Addr.add]] at this
      exact ⟨_, this.trans (List.getElem?_eq_getElem (by omega))⟩
  haveI : Inhabited α := ⟨dflt⟩
  obtain ⟨f, hf⟩ := choose_lt key
  refine ⟨_, (List.range len).map f, rfl, ⟨some a, cap, by simp, fun hpos => ?_⟩, by simp; unfold maxLen at hm; omega, fun y hy => ?_⟩
  · simp only [List.length_map, List.length_range] at hpos
    obtain ⟨b, off, spot⟩ := a
    obtain ⟨v, hv⟩ := (hf 0 hpos).2.2
    rw [Nat.zero_mul] at hv
    have hs : spot = none := by simpa [Addr.add] using World.cell?_spot hv
    subst hs
    refine ⟨b, off, rfl, Nat.zero_le _, by simpa [Addr.add] using lt_of_cell hv, fun i hi => ?_⟩
    simp only [List.length_map, List.length_range] at hi
    simp only [List.getElem_map, List.getElem_range]
    exact (hf i hi).1 b off rfl
  · obtain ⟨i, hi, rfl⟩ := List.mem_map.1 hy
    exact (hf i (by simpa using hi)).2.1
end

section
variable {H : Type} {enc : TypeId × Value → H} {w : World} {spare : Nat → Bool} {held : Bool}

theorem read_ints {fuel : Nat} {cs : List Value} {x : DataW H × List MemPlace} (h : DataW.trod enc Try.prog w 0 spare held fuel 23 cs = some x) :
    ∃ (v : Value) (l : List Int), cs = [v] ∧ Ints 0 w v l ∧ l.length ≤ 9223372036854775807 := by
  obtain ⟨v, l, h1, h2, h3, _⟩ := open_list (0 : Int) (size := 1) (E := CellsOf intCells) (Q := fun _ => True) Try.underlying23 (by kernel_rfl) (by decide) (fun fuel cs x hx => by
    obtain ⟨n, rfl, _, _⟩ := DataW.trod_int Try.underlying3 hx
    exact ⟨n, fun b o hr => hr, trivial⟩) h
  exact ⟨v, l, h1, h2, h3⟩

theorem cells5 {cs : List Value} (h : cs.length = 5) : ∃ a b c d e, cs = [a, b, c, d, e] := by
  match cs, h with
  | [a, b, c, d, e], _ => exact ⟨a, b, c, d, e, rfl⟩
theorem cells3 {cs : List Value} (h : cs.length = 3) : ∃ a b c, cs = [a, b, c] := by
  match cs, h with
  | [a, b, c], _ => exact ⟨a, b, c, rfl⟩
theorem cells1 {cs : List Value} (h : cs.length = 1) : ∃ a, cs = [a] := by
  match cs, h with
  | [a], _ => exact ⟨a, rfl⟩
theorem size_int : Try.prog.cellsOf 3 = 1 := by kernel_rfl
theorem size_int64 : Try.prog.cellsOf 2 = 1 := by kernel_rfl

theorem read_step {fuel : Nat} {cs : List Value} {x : DataW H × List MemPlace} (h : DataW.trod enc Try.prog w 0 spare held fuel 102 cs = some x) : ∃ s : StepD, cs = s.cells := by
  obtain ⟨xs, n, _, _, hl, hlen, hf⟩ := DataW.trod_struct Try.underlying102 h
  obtain ⟨a, b, c, d, e, rfl⟩ := cells5 (hl.trans (by kernel_rfl))
  have f0 := hf 0 _ rfl
  have f1 := hf 1 _ rfl
  have f2 := hf 2 _ rfl
  have f3 := hf 3 _ rfl
  have f4 := hf 4 _ rfl
  simp only [List.getElem?_eq_getElem (show 0 < xs.length by rw [hlen]; decide)] at f0
  simp only [List.getElem?_eq_getElem (show 1 < xs.length by rw [hlen]; decide)] at f1
  simp only [List.getElem?_eq_getElem (show 2 < xs.length by rw [hlen]; decide)] at f2
  simp only [List.getElem?_eq_getElem (show 3 < xs.length by rw [hlen]; decide)] at f3
  simp only [List.getElem?_eq_getElem (show 4 < xs.length by rw [hlen]; decide)] at f4
  obtain ⟨n0, e0, _, _⟩ := DataW.trod_int Try.underlying3 f0
  obtain ⟨n1, e1, _, _⟩ := DataW.trod_int Try.underlying3 f1
  obtain ⟨n2, e2, _, _⟩ := DataW.trod_int Try.underlying3 f2
  obtain ⟨n3, e3, _, _⟩ := DataW.trod_int Try.underlying2 f3
  obtain ⟨n4, e4, _, _⟩ := DataW.trod_int Try.underlying3 f4
  simp [size_int, size_int64] at e0 e1 e2 e3 e4
  exact ⟨⟨n0, n1, n2, n3, n4⟩, by simp [StepD.cells, e0, e1, e2, e3, e4]⟩

theorem read_event {fuel : Nat} {cs : List Value} {x : DataW H × List MemPlace} (h : DataW.trod enc Try.prog w 0 spare held fuel 86 cs = some x) : ∃ s : EventD, cs = s.cells := by
  obtain ⟨xs, n, _, _, hl, hlen, hf⟩ := DataW.trod_struct Try.underlying86 h
  obtain ⟨a, b, c, rfl⟩ := cells3 (hl.trans (by kernel_rfl))
  have f0 := hf 0 _ rfl
  have f1 := hf 1 _ rfl
  have f2 := hf 2 _ rfl
  simp only [List.getElem?_eq_getElem (show 0 < xs.length by rw [hlen]; decide)] at f0
  simp only [List.getElem?_eq_getElem (show 1 < xs.length by rw [hlen]; decide)] at f1
  simp only [List.getElem?_eq_getElem (show 2 < xs.length by rw [hlen]; decide)] at f2
  obtain ⟨n0, e0, _, _⟩ := DataW.trod_int Try.underlying2 f0
  obtain ⟨n1, e1, _, _⟩ := DataW.trod_int Try.underlying3 f1
  obtain ⟨n2, e2, _, _⟩ := DataW.trod_int Try.underlying2 f2
  simp [size_int, size_int64] at e0 e1 e2
  exact ⟨⟨n0, n1, n2⟩, by simp [EventD.cells, e0, e1, e2]⟩

theorem read_steps {fuel : Nat} {cs : List Value} {x : DataW H × List MemPlace} (h : DataW.trod enc Try.prog w 0 spare held fuel 74 cs = some x) :
    ∃ (v : Value) (l : List StepD), cs = [v] ∧ Steps 0 w v l ∧ l.length ≤ 9223372036854775807 := by
  obtain ⟨v, l, h1, h2, h3, _⟩ := open_list (⟨0, 0, 0, 0, 0⟩ : StepD) (size := 5) (E := CellsOf StepD.cells) (Q := fun _ => True) Try.underlying74 (by kernel_rfl) (by decide) (fun fuel cs x hx => by
    obtain ⟨n, rfl⟩ := read_step hx
    exact ⟨n, fun b o hr => hr, trivial⟩) h
  exact ⟨v, l, h1, h2, h3⟩

theorem read_events {fuel : Nat} {cs : List Value} {x : DataW H × List MemPlace} (h : DataW.trod enc Try.prog w 0 spare held fuel 37 cs = some x) :
    ∃ (v : Value) (l : List EventD), cs = [v] ∧ Events 0 w v l ∧ l.length ≤ 9223372036854775807 := by
  obtain ⟨v, l, h1, h2, h3, _⟩ := open_list (⟨0, 0, 0⟩ : EventD) (size := 3) (E := CellsOf EventD.cells) (Q := fun _ => True) Try.underlying37 (by kernel_rfl) (by decide) (fun fuel cs x hx => by
    obtain ⟨n, rfl⟩ := read_event hx
    exact ⟨n, fun b o hr => hr, trivial⟩) h
  exact ⟨v, l, h1, h2, h3⟩

theorem size_steps : Try.prog.cellsOf 74 = 1 := by kernel_rfl
theorem read_body {fuel : Nat} {cs : List Value} {x : DataW H × List MemPlace} (h : DataW.trod enc Try.prog w 0 spare held fuel 76 cs = some x) : ∃ (v : Value) (l : List StepD), cs = [v] ∧ Steps 0 w v l ∧ l.length ≤ 9223372036854775807 := by
  obtain ⟨xs, n, _, _, hl, hlen, hf⟩ := DataW.trod_struct Try.underlying76 h
  obtain ⟨a, rfl⟩ := cells1 (hl.trans (by kernel_rfl))
  have f0 := hf 0 _ rfl
  simp only [List.getElem?_eq_getElem (show 0 < xs.length by rw [hlen]; decide)] at f0
  obtain ⟨v, l, h1, h2, h3⟩ := read_steps f0
  simp [size_steps] at h1
  exact ⟨v, l, by rw [h1], h2, h3⟩

theorem read_bodies {fuel : Nat} {cs : List Value} {x : DataW H × List MemPlace} (h : DataW.trod enc Try.prog w 0 spare held fuel 22 cs = some x) :
    ∃ (v : Value) (l : List (List StepD)), cs = [v] ∧ Bodies 0 w v l ∧ l.length ≤ 9223372036854775807 ∧ ∀ b ∈ l, b.length ≤ 9223372036854775807 := by
  exact open_list ([] : List StepD) (size := 1) (E := BodyAt 0) (Q := fun b => b.length ≤ 9223372036854775807) Try.underlying22 (by kernel_rfl) (by decide) (fun fuel cs x hx => by
    obtain ⟨v, l, rfl, h2, h3⟩ := read_body hx
    exact ⟨l, fun b o hr => ⟨v, hr 0 v rfl, h2⟩, h3⟩) h

set_option maxRecDepth 100000 in
/-- An argument that is a plan. -/
theorem read_plan {r : Reach} {b0 : Nat} {v : Value} {d : DataW H} {p : List MemPlace} (hv : Value.okWide Try.prog w r b0 25 v) (h : DataW.Trod enc Try.prog w 0 spare held 25 v d p) :
    ∃ q : PlanD, PlanV 0 w v q ∧ q.bodies.length ≤ 9223372036854775807 ∧ (∀ b ∈ q.bodies, b.length ≤ 9223372036854775807) ∧ q.rooms.length ≤ 9223372036854775807 := by
  obtain ⟨v0, v1, v2, y0, y1, y2, n, rfl, _, _, h0, h1, h2⟩ := open_agg3 Try.underlying25 (by kernel_rfl) (by kernel_rfl) hv h
  obtain ⟨u0, l, e0, hB, hl, hlb⟩ := read_bodies h0
  obtain ⟨u1, k, e1, hI, hk⟩ := read_ints h1
  obtain ⟨m, e2, _, _⟩ := DataW.trod_int Try.underlying3 h2
  simp at e0 e1 e2
  subst e0 e1 e2
  exact ⟨⟨l, k, m⟩, ⟨_, _, rfl, hB, hI⟩, hl, hlb, hk⟩

set_option maxRecDepth 100000 in
theorem read_input {r : Reach} {b0 : Nat} {v : Value} {d : DataW H} {p : List MemPlace} (hv : Value.okWide Try.prog w r b0 39 v) (h : DataW.Trod enc Try.prog w 0 spare held 39 v d p) :
    ∃ q : InputD, InputV 0 w v q ∧ q.feed.length ≤ 9223372036854775807 := by
  obtain ⟨v0, v1, v2, y0, y1, y2, n, rfl, _, _, h0, h1, h2⟩ := open_agg3 Try.underlying39 (by kernel_rfl) (by kernel_rfl) hv h
  obtain ⟨u0, l, e0, hB, hl⟩ := read_events h0
  obtain ⟨m, e1, _, _⟩ := DataW.trod_int Try.underlying3 h1
  obtain ⟨k, e2, _, _⟩ := DataW.trod_int Try.underlying2 h2
  simp at e0 e1 e2
  subst e0 e1 e2
  exact ⟨⟨l, m, k⟩, ⟨_, rfl, hB⟩, hl⟩
end
end Go.Proofs.Ytogfkahcpjibjaa
