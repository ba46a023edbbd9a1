import Derived.Test.YtogfkahcpjibjaaBounds
import Derived.Test.YtogfkahcpjibjaaNest
import Derived.Test.YtogfkahcpjibjaaTo2
namespace Go.Proofs.Ytogfkahcpjibjaa
open Go.RowKit
attribute [local go_sem ↓] Go.wp_at_zero Go.wp_at_succ

def stepAt (nb nr : Nat) : Nat → List (List StepD) → Option (Nat × Nat)
  | _, [] => none
  | i, b :: r => match badAt nb nr 0 b with
    | some s => some (i, s)
    | none => stepAt nb nr (i + 1) r
def blockAt : Nat → List (List StepD) → Option (Nat × Int × Int)
  | _, [] => none
  | i, b :: r => if (insL 10 0 b).1 ≠ 0 then some (i, insL 10 0 b) else blockAt (i + 1) r
/-- The faults 4 to 6. -/
def deepD (p : PlanD) : Int × Int × Int :=
  match stepAt p.bodies.length p.rooms.length 0 p.bodies with
  | some (b, s) => (4, (b : Int), (s : Int))
  | none => match blockAt 0 p.bodies with
    | some (b, x) => (x.1, (b : Int), x.2)
    | none => (0, 0, 0)
def faultD (p : PlanD) : Int × Int × Int := if (boundsD p).1 ≠ 0 then boundsD p else deepD p

theorem fault_two {p : PlanD} (h : p.bodies.length ≠ 0 ∧ p.bodies.length ≤ 20) (h2 : (decide (p.rooms.length ≤ 10) && roomsB p.rooms && inB 1 p.slice 100) = false) : faultD p = (2, 0, 0) := by
  have hb : boundsD p = (2, 0, 0) := by unfold boundsD; rw [if_neg (by omega), if_pos h2]
  unfold faultD; simp only [hb]; rfl
theorem fault_long {p : PlanD} {b : Nat} (h : p.bodies.length ≠ 0 ∧ p.bodies.length ≤ 20) (h2 : (decide (p.rooms.length ≤ 10) && roomsB p.rooms && inB 1 p.slice 100) = true) (h3 : longAt 0 p.bodies = some b) : faultD p = (3, (b : Int), 0) := by
  have hb : boundsD p = (3, (b : Int), 0) := by unfold boundsD; rw [if_neg (by omega), if_neg (by rw [h2]; simp), h3]
  unfold faultD; simp only [hb]; rfl
theorem fault_rest {p : PlanD} (h : p.bodies.length ≠ 0 ∧ p.bodies.length ≤ 20) (h2 : (decide (p.rooms.length ≤ 10) && roomsB p.rooms && inB 1 p.slice 100) = true) (h3 : longAt 0 p.bodies = none) : faultD p = deepD p := by
  have hb : boundsD p = (0, 0, 0) := by unfold boundsD; rw [if_neg (by omega), if_neg (by rw [h2]; simp), h3]
  unfold faultD; simp only [hb]; rfl
theorem deep_step {p : PlanD} {b s : Nat} (h : stepAt p.bodies.length p.rooms.length 0 p.bodies = some (b, s)) : deepD p = (4, (b : Int), (s : Int)) := by unfold deepD; rw [h]
theorem deep_block {p : PlanD} {b : Nat} {x : Int × Int} (h : stepAt p.bodies.length p.rooms.length 0 p.bodies = none) (h' : blockAt 0 p.bodies = some (b, x)) : deepD p = (x.1, (b : Int), x.2) := by unfold deepD; rw [h, h']
theorem deep_none {p : PlanD} (h : stepAt p.bodies.length p.rooms.length 0 p.bodies = none) (h' : blockAt 0 p.bodies = none) : deepD p = (0, 0, 0) := by unfold deepD; rw [h, h']
theorem step_none {nb nr : Nat} : ∀ (i : Nat) (l : List (List StepD)), stepAt nb nr i l = none → ∀ b ∈ l, badAt nb nr 0 b = none
  | _, [], _, b, hb => by cases hb
  | i, a :: r, h, b, hb => by
    unfold stepAt at h
    cases ha : badAt nb nr 0 a with
    | some s => rw [ha] at h; cases h
    | none =>
      rw [ha] at h
      cases hb with
      | head => exact ha
      | tail _ hb => exact step_none (i + 1) r h b hb

theorem step_hit {nb nr k : Nat} {l : List (List StepD)} (hk : k < l.length) (h : badAt nb nr 0 l[k] = none) : stepAt nb nr k (l.drop k) = stepAt nb nr (k + 1) (l.drop (k + 1)) := by
  rw [List.drop_eq_getElem_cons hk]; simp [stepAt, h]
theorem step_miss {nb nr k i : Nat} {l : List (List StepD)} (hk : k < l.length) (h : badAt nb nr 0 l[k] = some i) : stepAt nb nr k (l.drop k) = some (k, i) := by
  rw [List.drop_eq_getElem_cons hk]; simp [stepAt, h]
theorem step_end {nb nr k : Nat} {l : List (List StepD)} (hk : l.length ≤ k) : stepAt nb nr k (l.drop k) = none := by
  rw [List.drop_eq_nil_of_le hk]; rfl
theorem block_hit {k : Nat} {l : List (List StepD)} (hk : k < l.length) (h : (insL 10 0 l[k]).1 = 0) : blockAt k (l.drop k) = blockAt (k + 1) (l.drop (k + 1)) := by
  rw [List.drop_eq_getElem_cons hk]; simp [blockAt, h]
theorem block_miss {k : Nat} {l : List (List StepD)} (hk : k < l.length) (h : (insL 10 0 l[k]).1 ≠ 0) : blockAt k (l.drop k) = some (k, insL 10 0 l[k]) := by
  rw [List.drop_eq_getElem_cons hk]; simp [blockAt, h]
theorem block_end {k : Nat} {l : List (List StepD)} (hk : l.length ≤ k) : blockAt k (l.drop k) = none := by
  rw [List.drop_eq_nil_of_le hk]; rfl

/-- Every step of a body without a bad one is known, and no head's size is below 0. -/
theorem bad_none {nb nr : Nat} : ∀ (i : Nat) (l : List StepD), badAt nb nr i l = none → ∀ s ∈ l, shapeB nb nr s = true
  | _, [], _, s, hs => by cases hs
  | i, a :: r, h, s, hs => by
    unfold badAt at h
    by_cases ha : shapeB nb nr a = true
    · rw [if_pos ha] at h
      cases hs with
      | head => exact ha
      | tail _ hs => exact bad_none (i + 1) r h s hs
    · rw [if_neg ha] at h; cases h
theorem shape_known {nb nr : Nat} {s : StepD} (h : shapeB nb nr s = true) : (1 ≤ s.op ∧ s.op ≤ 16) ∧ (isHead s = true → 0 ≤ s.size) := by
  constructor
  · by_cases hk : 1 ≤ s.op ∧ s.op ≤ 16
    · exact hk
    · rw [shape_none nb nr s hk] at h; cases h
  · intro hh
    have h15 : s.op = 15 ∨ s.op = 16 := by simpa [isHead] using hh
    unfold shapeB at h
    rcases h15 with h15 | h15 <;> simp [h15] at h <;> exact h.2

/-- Bodies that are read. -/
def DeedAt (lo : Nat) (w : World) (b o : Nat) (l : List StepD) : Prop := ∃ u, w.cell? ⟨b, o, none⟩ = some u ∧ DeedsC lo w u l
theorem DeedAt.below {lo : Nat} {w w' : World} {b o : Nat} {l : List StepD} (h : DeedAt lo w b o l) (hb : Below w.heap.size w w') (hlt : b < w.heap.size) : DeedAt lo w' b o l := by
  obtain ⟨u, hu, hs⟩ := h
  exact ⟨u, (hb.cell hlt).trans hu, hs.below hb⟩
theorem DeedsC.setCell {lo : Nat} {w : World} {v : Value} {l : List StepD} (h : DeedsC lo w v l) (a : Addr) (ha : a.block < lo) (u : Value) : DeedsC lo (w.setCell a u) v l := ⟨SliceAt.setCell h.1 a ha u, h.2⟩
theorem DeedsC.low {lo lo' : Nat} {w : World} {v : Value} {l : List StepD} (h : DeedsC lo w v l) (hl : lo' ≤ lo) : DeedsC lo' w v l := ⟨SliceAt.mono h.1 hl (Nat.le_refl _) fun _ _ _ _ _ hr => hr, h.2⟩

theorem filled_deed {w0 wr W : World} {B : Nat} {l : List (List StepD)} {k : Nat} (h : Filled 1 (DeedAt (B + 1)) w0 wr B l k) (hk : k < l.length) (hb : Below wr.heap.size wr W) (v : Value) (hs : DeedsC wr.heap.size W v l[k]) :
    Filled 1 (DeedAt (B + 1)) w0 (W.setCell ⟨B, k, none⟩ v) B l (k + 1) := by
  have h2 := h.grown hb (fun j hj hr => hr.below hb h.lt)
  have h3 := h2.store [v] (fun j hj hjk hr => ?_) (fun _ => ?_)
  · simpa [World.setCells] using h3
  · obtain ⟨u, hu, hs⟩ := hr
    refine ⟨u, ?_, hs.setCell ⟨B, k * 1, none⟩ (by simp) v⟩
    rw [← hu]
    exact World.cell?_setCells_out B [v] (k * 1) W _ (fun _ _ => .inl (by show j * 1 < k * 1; omega))
  · refine ⟨v, ?_, (hs.setCell ⟨B, k * 1, none⟩ h.lt v).low h.lt⟩
    exact World.cell?_setCells_in B [v] (k * 1) W (fun j hj => (h2.mid hk j (by simpa using hj)).1) 0 (by simp)

theorem info_flat : (Try.prog.info? 79).map (fun i => (i.zero, i.size, i.bytes)) = some (some (.slice none 0 0), 1, 24) := by kernel_rfl
def flatCells (n : Nat) : Array Value := madeCells #[.slice none 0 0] n
theorem make_flat (n : Nat) (hn : n ≤ 1048576) (u : World) : (Instr.makeSlice 61 (.int .i64 (n : Int)) (.int .i64 (n : Int))).run Try.prog u =
      .ok (.slice (some ⟨u.heap.size, 0, none⟩) n n) (u.alloc (.cells (flatCells n) 79)) :=
  run_make_row' (P := Try.prog) 61 79 (.slice none 0 0) 24 Try.underlying61 info_flat rfl .i64 .i64 n (by omega) (by omega) u
theorem flat_size (n : Nat) : (flatCells n).size = n := size_madeCells _ _
end Go.Proofs.Ytogfkahcpjibjaa
