/-
  THE PLAIN DATA of the laws' arguments, and how they lie in memory. Nothing of the dump is named here.
-/
import Derived.Below
import Derived.Deep.MidRow
import Derived.Deep.OwnRows
import Derived.Carry
namespace Go.Proofs.Ytogfkahcpjibjaa
open Go.RowKit

theorem hid {p : Prop} (h : p) : Hid p := h

structure StepD where
  op : Int
  a : Int
  b : Int
  n : Int
  size : Int
structure EventD where
  time : Int
  chan : Int
  num : Int
structure PlanD where
  bodies : List (List StepD)
  rooms : List Int
  slice : Int
structure InputD where
  feed : List EventD
  ticks : Int
  til : Int

def intCells (n : Int) : List Value := [.int .i64 n]
def StepD.cells (s : StepD) : List Value := [.int .i64 s.op, .int .i64 s.a, .int .i64 s.b, .int .i64 s.n, .int .i64 s.size]
def EventD.cells (s : EventD) : List Value := [.int .i64 s.time, .int .i64 s.chan, .int .i64 s.num]

/-- A slice value v whose elements are l, each by E, in a block from lo on. -/
def SliceAt {α : Type} (lo size : Nat) (E : World → Nat → Nat → α → Prop) (w : World) (v : Value) (l : List α) : Prop :=
  ∃ ao cap, v = .slice ao l.length cap ∧ (0 < l.length → ∃ b off, ao = some ⟨b, off, none⟩ ∧ lo ≤ b ∧ b < w.heap.size ∧ ∀ i (h : i < l.length), E w b (off + i * size) l[i])

def CellsOf {α : Type} (cells : α → List Value) : World → Nat → Nat → α → Prop := fun w b o x => w.rangeAt b o (cells x)
def Ints (lo : Nat) (w : World) (v : Value) (l : List Int) : Prop := SliceAt lo 1 (CellsOf intCells) w v l
def Steps (lo : Nat) (w : World) (v : Value) (l : List StepD) : Prop := SliceAt lo 5 (CellsOf StepD.cells) w v l
def Events (lo : Nat) (w : World) (v : Value) (l : List EventD) : Prop := SliceAt lo 3 (CellsOf EventD.cells) w v l
def BodyAt (lo : Nat) (w : World) (b o : Nat) (l : List StepD) : Prop := ∃ u, w.cell? ⟨b, o, none⟩ = some u ∧ Steps lo w u l
def Bodies (lo : Nat) (w : World) (v : Value) (l : List (List StepD)) : Prop := SliceAt lo 1 (BodyAt lo) w v l

def PlanV (lo : Nat) (w : World) (v : Value) (p : PlanD) : Prop := ∃ v0 v1, v = .agg #[v0, v1, .int .i64 p.slice] ∧ Bodies lo w v0 p.bodies ∧ Ints lo w v1 p.rooms
def InputV (lo : Nat) (w : World) (v : Value) (p : InputD) : Prop := ∃ v0, v = .agg #[v0, .int .i64 p.ticks, .int .i64 p.til] ∧ Events lo w v0 p.feed

theorem bcell {W w1 : World} (hb : Below W.heap.size W w1) : ∀ b o, b < W.heap.size → w1.cell? ⟨b, o, none⟩ = W.cell? ⟨b, o, none⟩ := fun b o h => hb.cell (p := ⟨b, o, none⟩) h
theorem bcelld {W w1 : World} (hb : Below W.drew.heap.size W.drew w1) : ∀ b o, b < W.heap.size → w1.cell? ⟨b, o, none⟩ = W.cell? ⟨b, o, none⟩ := fun b o h => hb.cell (p := ⟨b, o, none⟩) h
theorem rangeAt_below {w w' : World} {b o : Nat} {cs : List Value} (hb : Below w.heap.size w w') (h : w.rangeAt b o cs) (hlt : b < w.heap.size) : w'.rangeAt b o cs :=
  fun j v hv => (hb.cell (p := ⟨b, o + j, none⟩) hlt).trans (h j v hv)
theorem there_below {w w' : World} {b o n : Nat} (hb : Below w.heap.size w w') (h : w.there b o n) (hlt : b < w.heap.size) : w'.there b o n :=
  fun j hj => by rw [hb.cell (p := ⟨b, o + j, none⟩) hlt, hb.frozen (p := ⟨b, o + j, none⟩) hlt]; exact h j hj

theorem SliceAt.mono {α : Type} {lo lo' size : Nat} {E E' : World → Nat → Nat → α → Prop} {w w' : World} {v : Value} {l : List α} (h : SliceAt lo size E w v l) (hlo : lo' ≤ lo)
    (hs : w.heap.size ≤ w'.heap.size) (hE : ∀ b o x, lo ≤ b → b < w.heap.size → E w b o x → E' w' b o x) : SliceAt lo' size E' w' v l := by
  obtain ⟨ao, cap, hv, hr⟩ := h
  refine ⟨ao, cap, hv, fun h0 => ?_⟩
  obtain ⟨b, off, ha, hl, hb, hc⟩ := hr h0
  exact ⟨b, off, ha, Nat.le_trans hlo hl, Nat.lt_of_lt_of_le hb hs, fun i hi => hE _ _ _ hl hb (hc i hi)⟩

theorem Ints.below {lo : Nat} {w w' : World} {v : Value} {l : List Int} (h : Ints lo w v l) (hb : Below w.heap.size w w') : Ints lo w' v l :=
  SliceAt.mono h (Nat.le_refl _) hb.size fun _ _ _ _ hlt hr => rangeAt_below hb hr hlt
theorem Steps.below {lo : Nat} {w w' : World} {v : Value} {l : List StepD} (h : Steps lo w v l) (hb : Below w.heap.size w w') : Steps lo w' v l :=
  SliceAt.mono h (Nat.le_refl _) hb.size fun _ _ _ _ hlt hr => rangeAt_below hb hr hlt
theorem Events.below {lo : Nat} {w w' : World} {v : Value} {l : List EventD} (h : Events lo w v l) (hb : Below w.heap.size w w') : Events lo w' v l :=
  SliceAt.mono h (Nat.le_refl _) hb.size fun _ _ _ _ hlt hr => rangeAt_below hb hr hlt
theorem Bodies.below {lo : Nat} {w w' : World} {v : Value} {l : List (List StepD)} (h : Bodies lo w v l) (hb : Below w.heap.size w w') : Bodies lo w' v l :=
  SliceAt.mono h (Nat.le_refl _) hb.size fun _ _ _ _ hlt ⟨u, hu, hs⟩ => ⟨u, (hb.cell hlt).trans hu, Steps.below hs hb⟩
theorem PlanV.below {lo : Nat} {w w' : World} {v : Value} {p : PlanD} (h : PlanV lo w v p) (hb : Below w.heap.size w w') : PlanV lo w' v p := by
  obtain ⟨v0, v1, rfl, h0, h1⟩ := h
  exact ⟨v0, v1, rfl, h0.below hb, h1.below hb⟩
theorem InputV.below {lo : Nat} {w w' : World} {v : Value} {p : InputD} (h : InputV lo w v p) (hb : Below w.heap.size w w') : InputV lo w' v p := by
  obtain ⟨v0, rfl, h0⟩ := h
  exact ⟨v0, rfl, h0.below hb⟩

theorem Ints.low {lo lo' : Nat} {w : World} {v : Value} {l : List Int} (h : Ints lo w v l) (hl : lo' ≤ lo) : Ints lo' w v l := SliceAt.mono h hl (Nat.le_refl _) fun _ _ _ _ _ hr => hr
theorem Steps.low {lo lo' : Nat} {w : World} {v : Value} {l : List StepD} (h : Steps lo w v l) (hl : lo' ≤ lo) : Steps lo' w v l := SliceAt.mono h hl (Nat.le_refl _) fun _ _ _ _ _ hr => hr
theorem Events.low {lo lo' : Nat} {w : World} {v : Value} {l : List EventD} (h : Events lo w v l) (hl : lo' ≤ lo) : Events lo' w v l := SliceAt.mono h hl (Nat.le_refl _) fun _ _ _ _ _ hr => hr
theorem Bodies.low {lo lo' : Nat} {w : World} {v : Value} {l : List (List StepD)} (h : Bodies lo w v l) (hl : lo' ≤ lo) : Bodies lo' w v l :=
  SliceAt.mono h hl (Nat.le_refl _) fun _ _ _ _ _ ⟨u, hu, hs⟩ => ⟨u, hu, hs.low hl⟩

/-! ### Stores into a block of the call's own -/
theorem below_setCells {B : Nat} {a : World} (b : Nat) (hb : B ≤ b) : ∀ (vs : List Value) (o : Nat) (w : World), Below B a w → Below B a (w.setCells b o vs)
  | [], _, _, h => h
  | v :: vs, o, _, h => below_setCells b hb vs (o + 1) _ (h.setCell (p := ⟨b, o, none⟩) hb v)
theorem size_setCells (b : Nat) : ∀ (vs : List Value) (o : Nat) (w : World), (w.setCells b o vs).heap.size = w.heap.size
  | [], _, _ => rfl
  | v :: vs, o, w => (size_setCells b vs (o + 1) _).trans (by simp [World.setCell])
theorem there_part {w : World} {b o n o' n' : Nat} (h : w.there b o n) (h1 : o ≤ o') (h2 : o' + n' ≤ o + n) : w.there b o' n' := fun j hj => by
  have := h (o' - o + j) (by omega)
  rwa [show o + (o' - o + j) = o' + j by omega] at this
theorem there_alloc_new (w : World) (C : Array Value) (t : TypeId) : (w.alloc (.cells C t)).there w.heap.size 0 C.size := fun j hj => by
  rw [World.cell?_alloc_at _ _ _ _ rfl, World.frozen?_alloc_at _ _ _ _ rfl]
  exact ⟨by simp; omega, rfl⟩

theorem step_cells {w : World} {b o : Nat} {s : StepD} (h : w.rangeAt b o s.cells) : w.cell? ⟨b, o, none⟩ = some (.int .i64 s.op) ∧ w.cell? ⟨b, o + 1, none⟩ = some (.int .i64 s.a) ∧ w.cell? ⟨b, o + 2, none⟩ = some (.int .i64 s.b) ∧
    w.cell? ⟨b, o + 3, none⟩ = some (.int .i64 s.n) ∧ w.cell? ⟨b, o + 4, none⟩ = some (.int .i64 s.size) :=
  ⟨h 0 _ rfl, h 1 _ rfl, h 2 _ rfl, h 3 _ rfl, h 4 _ rfl⟩
theorem event_cells {w : World} {b o : Nat} {s : EventD} (h : w.rangeAt b o s.cells) : w.cell? ⟨b, o, none⟩ = some (.int .i64 s.time) ∧ w.cell? ⟨b, o + 1, none⟩ = some (.int .i64 s.chan) ∧ w.cell? ⟨b, o + 2, none⟩ = some (.int .i64 s.num) :=
  ⟨h 0 _ rfl, h 1 _ rfl, h 2 _ rfl⟩
theorem there_at {w : World} {b o n : Nat} (h : w.there b o n) (j : Nat) (hj : j < n) : (∃ v, w.cell? ⟨b, o + j, none⟩ = some v) ∧ w.frozen? ⟨b, o + j, none⟩ = false :=
  ⟨Option.isSome_iff_exists.1 (h j hj).1, (h j hj).2⟩

/-- The block B of the call's own is being filled: k elements lie there, by E, which speaks of blocks other than B, or of B at the element's own place. -/
structure Filled {α : Type} (size : Nat) (E : World → Nat → Nat → α → Prop) (w0 wr : World) (B : Nat) (l : List α) (k : Nat) : Prop where
  done : ∀ j (h : j < l.length), j < k → E wr B (j * size) l[j]
  there : wr.there B 0 (l.length * size)
  lt : B < wr.heap.size
  below : Below B w0 wr

theorem filled_start {α : Type} {size : Nat} {E : World → Nat → Nat → α → Prop} {w0 w : World} {C : Array Value} {t : TypeId} {l : List α} (hC : C.size = l.length * size) (hb : Below w.heap.size w0 w) :
    Filled size E w0 (w.alloc (.cells C t)) w.heap.size l 0 :=
  ⟨fun j _ h => absurd h (Nat.not_lt_zero _), by have := there_alloc_new w C t; rwa [hC] at this, by simp, hb.alloc (Nat.le_refl _) _⟩

theorem Filled.mid {α : Type} {size : Nat} {E : World → Nat → Nat → α → Prop} {w0 wr : World} {B : Nat} {l : List α} {k : Nat} (h : Filled size E w0 wr B l k) (hk : k < l.length) : wr.there B (k * size) size :=
  there_part h.there (Nat.zero_le _) (by have : (k + 1) * size ≤ l.length * size := Nat.mul_le_mul_right _ hk; rw [Nat.succ_mul] at this; omega)

/-- Other blocks come to be. -/
theorem Filled.grown {α : Type} {size : Nat} {E : World → Nat → Nat → α → Prop} {w0 wr W : World} {B : Nat} {l : List α} {k : Nat} (h : Filled size E w0 wr B l k) (hb : Below wr.heap.size wr W)
    (hE : ∀ j (h : j < l.length), E wr B (j * size) l[j] → E W B (j * size) l[j]) : Filled size E w0 W B l k :=
  ⟨fun j hj hk => hE j hj (h.done j hj hk), there_below hb h.there h.lt, Nat.lt_of_lt_of_le h.lt hb.size, h.below.trans (hb.mono (Nat.le_of_lt h.lt))⟩

/-- An element is stored. -/
theorem Filled.store {α : Type} {size : Nat} {E : World → Nat → Nat → α → Prop} {w0 wr : World} {B : Nat} {l : List α} {k : Nat} (h : Filled size E w0 wr B l k) (vs : List Value)
    (hE : ∀ j (h : j < l.length), j < k → E wr B (j * size) l[j] → E (wr.setCells B (k * size) vs) B (j * size) l[j]) (hk : ∀ h : k < l.length, E (wr.setCells B (k * size) vs) B (k * size) l[k]) :
    Filled size E w0 (wr.setCells B (k * size) vs) B l (k + 1) := by
  refine ⟨fun j hj hlt => ?_, World.there_setCells h.there _ _ _, by rw [size_setCells]; exact h.lt, below_setCells B (Nat.le_refl _) _ _ _ h.below⟩
  by_cases e : j = k
  · subst e; exact hk hj
  · exact hE j hj (by omega) (h.done j hj (by omega))

theorem rangeAt_before {w : World} {b o : Nat} {cs : List Value} (h : w.rangeAt b o cs) (o' : Nat) (vs : List Value) (hlt : o + cs.length ≤ o') : (w.setCells b o' vs).rangeAt b o cs :=
  World.rangeAt_setCells_apart h b o' vs (.inr (.inl hlt))

theorem Filled.cells {α : Type} {size : Nat} {cells : α → List Value} (hc : ∀ x, (cells x).length = size) {w0 wr W : World} {B : Nat} {l : List α} {k : Nat} (h : Filled size (CellsOf cells) w0 wr B l k) (hk : k < l.length) (hb : Below wr.heap.size wr W) :
    Filled size (CellsOf cells) w0 (W.setCells B (k * size) (cells l[k])) B l (k + 1) := by
  have h2 := h.grown hb (fun j hj hr => rangeAt_below hb hr h.lt)
  refine h2.store _ (fun j hj hjk hr => rangeAt_before hr _ _ ?_) (fun _ => World.rangeAt_setCells_same _ _ _ _ (by rw [hc]; exact h2.mid hk))
  have : (j + 1) * size ≤ k * size := Nat.mul_le_mul_right _ hjk
  rw [hc, ← Nat.succ_mul]; exact this

theorem Filled.slice {α : Type} {size : Nat} {E : World → Nat → Nat → α → Prop} {w0 wr : World} {B : Nat} {l : List α} {k : Nat} (h : Filled size E w0 wr B l k) (hk : l.length ≤ k) (cap : Nat) :
    SliceAt B size E wr (.slice (some ⟨B, 0, none⟩) l.length cap) l :=
  ⟨_, _, rfl, fun _ => ⟨B, 0, rfl, Nat.le_refl _, h.lt, fun i hi => by rw [Nat.zero_add]; exact h.done i hi (by omega)⟩⟩

end Go.Proofs.Ytogfkahcpjibjaa
