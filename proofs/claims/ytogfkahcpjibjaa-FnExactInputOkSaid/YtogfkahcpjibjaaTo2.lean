import Derived.Test.YtogfkahcpjibjaaTo
namespace Go.Proofs.Ytogfkahcpjibjaa
open Go.RowKit

theorem rangeAt_setCell_other {w : World} {b o : Nat} {cs : List Value} (h : w.rangeAt b o cs) (a : Addr) (ha : b ≠ a.block) (u : Value) : (w.setCell a u).rangeAt b o cs := fun j v hv => by
  rw [World.cell?_of_block (w := w) (Below.heap_setCell w a u b ha)]; exact h j v hv
theorem SliceAt.setCell {α : Type} {lo size : Nat} {cells : α → List Value} {w : World} {v : Value} {l : List α} (h : SliceAt lo size (CellsOf cells) w v l) (a : Addr) (ha : a.block < lo) (u : Value) : SliceAt lo size (CellsOf cells) (w.setCell a u) v l :=
  h.mono (Nat.le_refl _) (by simp [World.setCell]) fun _ _ _ hl _ hr => rangeAt_setCell_other hr a (by omega) u
theorem Steps.setCell {lo : Nat} {w : World} {v : Value} {l : List StepD} (h : Steps lo w v l) (a : Addr) (ha : a.block < lo) (u : Value) : Steps lo (w.setCell a u) v l := SliceAt.setCell h a ha u
theorem Ints.setCell {lo : Nat} {w : World} {v : Value} {l : List Int} (h : Ints lo w v l) (a : Addr) (ha : a.block < lo) (u : Value) : Ints lo (w.setCell a u) v l := SliceAt.setCell h a ha u
theorem Events.setCell {lo : Nat} {w : World} {v : Value} {l : List EventD} (h : Events lo w v l) (a : Addr) (ha : a.block < lo) (u : Value) : Events lo (w.setCell a u) v l := SliceAt.setCell h a ha u
theorem Bodies.setCell {lo : Nat} {w : World} {v : Value} {l : List (List StepD)} (h : Bodies lo w v l) (a : Addr) (ha : a.block < lo) (u : Value) : Bodies lo (w.setCell a u) v l :=
  SliceAt.mono h (Nat.le_refl _) (by simp [World.setCell]) fun b o _ hl _ ⟨x, hx, hs⟩ => ⟨x, (World.cell?_of_block (a := ⟨b, o, none⟩) (w := w) (Below.heap_setCell w a u b (by omega))).trans hx, hs.setCell a ha u⟩

/-- laws.toBody. -/
theorem toBody_any (v : Value) (l : List StepD) (w : World) {lo : Nat} (hv : Steps lo w v l) (hlen : l.length ≤ 1048576) :
    Calls Try.prog 34 #[.agg #[v]] w fun e w' => ∃ v', e = .returned (.agg #[v']) ∧ Steps w.heap.size w' v' l ∧ Below w.heap.size w w' := by
  have hb1 := (Below.refl w.heap.size w).alloc (Nat.le_refl _) (.cells #[v] 76)
  have hb2 := hb1.alloc (by simp) (.cells #[.slice none 0 0] 53)
  have hb3 := hb2.alloc (by simp; omega) (.cells #[.slice none 0 0] 53)
  have h3 := hv.below hb3
  obtain ⟨ao, cap, rfl, _⟩ := hv
  go_enter Try.func34, Try.ntmps34
  go_wp2_with fail
  refine (toStepS_any _ l _ h3 hlen).mono ?_
  rintro e w' ⟨v', rfl, hs, hbel⟩
  have hsz := hbel.size
  have d1 : w'.cell? ⟨w.heap.size + 1, 0, none⟩ = some (.slice none 0 0) := by rw [hbel.cell (p := ⟨w.heap.size + 1, 0, none⟩) (by simp)]; simp [go_sem]
  have d2 : w'.cell? ⟨w.heap.size + 1 + 1, 0, none⟩ = some (.slice none 0 0) := by rw [hbel.cell (p := ⟨w.heap.size + 1 + 1, 0, none⟩) (by simp)]; simp [go_sem]
  have f1 : w'.frozen? ⟨w.heap.size + 1, 0, none⟩ = false := by rw [hbel.frozen (p := ⟨w.heap.size + 1, 0, none⟩) (by simp)]; simp [go_sem]
  have f2 : w'.frozen? ⟨w.heap.size + 1 + 1, 0, none⟩ = false := by rw [hbel.frozen (p := ⟨w.heap.size + 1 + 1, 0, none⟩) (by simp)]; simp [go_sem]
  have hbb := hb3.trans (hbel.mono (by simp; omega))
  simp only [World.size_alloc] at hs hsz
  have HS : Hid (Steps (w.heap.size + 1 + 1 + 1) w' v' l) := hs
  obtain ⟨ao', cap', rfl, _⟩ := hs
  clear h3 hb1 hb2 hb3 hbel
  have HB : Hid (Below w.heap.size w w') := hbb
  clear hbb
  go_wp2
  exact bodyPost_ret (v := .agg #[.slice ao' l.length cap']) (by simp [results, Try.results34, go_sem, *]) rfl ⟨_, rfl,
    ((HS.out.setCell _ (by simp) _).setCell _ (by simp) _).low (by omega), (HB.out.setCell (by simp; omega) _).setCell (by simp) _⟩

theorem info53 : (Try.prog.info? 53).map (fun i => (i.zero, i.size, i.bytes)) = some (some (.agg #[.slice none 0 0]), 1, 24) := by kernel_rfl
def bodyZeros (n : Nat) : Array Value := madeCells #[.slice none 0 0] (n * 1)
theorem make_bodies (n : Nat) (hn : n ≤ 1048576) (u : World) : (Instr.makeSlice 30 (.int .i64 (n : Int)) (.int .i64 (n : Int))).run Try.prog u =
      .ok (.slice (some ⟨u.heap.size, 0, none⟩) n n) (u.alloc (.cells (bodyZeros n) 53)) := by
  obtain ⟨i0, hi, hz0, hz1, hz2⟩ := info_parts info53
  have h := run_make (P := Try.prog) u 30 53 i0 _ Try.underlying30 hi hz0 .i64 .i64 (n : Int) (n : Int) (by omega) (Int.le_refl _) (by rw [hz2]; omega) (by omega)
  simpa [hz1, Value.cells, bodyZeros] using h

theorem BodyAt.below {lo : Nat} {w w' : World} {b o : Nat} {l : List StepD} (h : BodyAt lo w b o l) (hb : Below w.heap.size w w') (hlt : b < w.heap.size) : BodyAt lo w' b o l := by
  obtain ⟨u, hu, hs⟩ := h
  exact ⟨u, (hb.cell hlt).trans hu, hs.below hb⟩

/-- One body more is stored. -/
theorem filled_body {w0 wr W : World} {B : Nat} {l : List (List StepD)} {k : Nat} (h : Filled 1 (BodyAt (B + 1)) w0 wr B l k) (hk : k < l.length) (hb : Below wr.heap.size wr W) (v : Value) (hs : Steps wr.heap.size W v l[k]) :
    Filled 1 (BodyAt (B + 1)) w0 (W.setCell ⟨B, k, none⟩ v) B l (k + 1) := by
  have h2 := h.grown hb (fun j hj hr => hr.below hb h.lt)
  have h3 := h2.store [v] (fun j hj hjk hr => ?_) (fun _ => ?_)
  · simpa [World.setCells] using h3
  · obtain ⟨u, hu, hs⟩ := hr
    refine ⟨u, ?_, hs.setCell ⟨B, k * 1, none⟩ (by simp) v⟩
    rw [← hu]
    exact World.cell?_setCells_out B [v] (k * 1) W _ (fun _ _ => .inl (by show j * 1 < k * 1; omega))
  · refine ⟨v, ?_, (hs.setCell ⟨B, k * 1, none⟩ h.lt v).low h.lt⟩
    exact World.cell?_setCells_in B [v] (k * 1) W (fun j hj => (h2.mid hk j (by simpa using hj)).1) 0 (by simp)

theorem toBodyS_any (v : Value) (l : List (List StepD)) (w : World) {lo : Nat} (hv : Bodies lo w v l) (hlen : l.length ≤ 1048576) (hlb : ∀ b ∈ l, b.length ≤ 1048576) :
    Calls Try.prog 21 #[v] w fun e w' => ∃ v', e = .returned v' ∧ Bodies w.heap.size w' v' l ∧ Below w.heap.size w w' := by
  obtain ⟨ao, cap, rfl, hc⟩ := hv
  have hmk := make_bodies l.length hlen
  have hmem : ∀ i (h : i < l.length), (l[i]).length ≤ 1048576 := fun i h => hlb _ (List.getElem_mem h)
  clear hlb
  go_enter Try.func21, Try.ntmps21
  go_wp2
  clear hmk
  go_loopw [4] (fun i wr => ∃ k : Nat, k ≤ l.length ∧ i = .int .i64 k ∧ Filled 1 (BodyAt (w.heap.size + 1)) w wr w.heap.size l k) (fun i _ => l.length - (intOf i).toNat)
  case atStart => exact ⟨0, Nat.zero_le _, rfl, filled_start (by simp [bodyZeros, size_madeCells]) (Below.refl _ _)⟩
  case round =>
    obtain ⟨k, hk, rfl, hf⟩ := hrel
    by_cases hlt : k < l.length
    · obtain ⟨b, off, rfl, _, hb, hcc⟩ := hc (by omega)
      obtain ⟨u, hu, hst⟩ := hcc k hlt
      rw [Nat.mul_one] at hu
      have c0 : wr.cell? ⟨b, off + k, none⟩ = some u := (hf.below.cell (by exact hb)).trans hu
      have hst' := hst.below hf.below
      have hsm := hmem k hlt
      have HS : Hid (Steps lo wr u (l[k]'hlt)) := hst'
      obtain ⟨s, hs⟩ : ∃ s, s = l[k]'hlt := ⟨_, rfl⟩
      rw [← hs] at hst' hsm
      have HE : Hid (s = l[k]'hlt) := hs
      have HF : Hid (Filled 1 (BodyAt (w.heap.size + 1)) w wr w.heap.size l k) := hf
      have hlt' := hf.lt
      have hsl := hst'
      obtain ⟨ao', cap', rfl, _⟩ := hst'
      clear hc hcc hs hf hu hst hmem
      have HSL : Hid (Steps lo wr (.slice ao' s.length cap') s) := hsl
      clear hsl HS
      go_wp2_with fail
      refine (toBody_any _ _ _ HSL.out hsm).mono ?_
      rintro e w' ⟨v', rfl, hs', hbel⟩
      have hth := there_below hbel (HF.out.mid hlt) hlt'
      obtain ⟨⟨x0, d0⟩, f0⟩ := there_at hth 0 (by omega)
      simp only [Nat.add_zero, Nat.mul_one] at d0 f0
      have HB : Hid (Below wr.heap.size wr w') := hbel
      have HS' : Hid (Steps wr.heap.size w' v' s) := hs'
      obtain ⟨ao2, cap2, rfl, _⟩ := hs'
      clear hbel hth c0
      go_wp2
      go_roundw
      case rel =>
        refine ⟨k + 1, by omega, by go_num, ?_⟩
        exact filled_body HF.out hlt HB.out _ (by rw [← HE.out]; exact HS'.out)
      case measure => simp [intOf]; omega
    · clear hc hmem
      have HF : Hid (Filled 1 (BodyAt (w.heap.size + 1)) w wr w.heap.size l k) := hf
      clear hf
      go_wp2
      go_ret
      refine ⟨_, rfl, SliceAt.mono (HF.out.slice (by omega) _) (Nat.le_refl _) (Nat.le_refl _) ?_, HF.out.below⟩
      rintro b o x _ _ ⟨u, hu, hs⟩
      exact ⟨u, hu, hs.low (by omega)⟩

/-- laws.toInput. -/
theorem toInput_any (v : Value) (p : InputD) (w : World) {lo : Nat} (hv : InputV lo w v p) (hlen : p.feed.length ≤ 1048576) :
    Calls Try.prog 13 #[v] w fun e w' => ∃ v', e = .returned v' ∧ InputV w.heap.size w' v' p ∧ Below w.heap.size w w' := by
  obtain ⟨v0, rfl, hE⟩ := hv
  have hb1 := (Below.refl w.heap.size w).alloc (Nat.le_refl _) (.cells #[v0, .int .i64 p.ticks, .int .i64 p.til] 39)
  have hb2 := hb1.alloc (by simp) (.cells #[.slice none 0 0, .int .i64 0, .int .i64 0] 44)
  have hb3 := hb2.alloc (by simp; omega) (.cells #[.slice none 0 0, .int .i64 0, .int .i64 0] 44)
  have h3 := hE.below hb3
  obtain ⟨ao, cap, rfl, _⟩ := hE
  go_enter Try.func13, Try.ntmps13
  go_wp2_with fail
  refine (toEventS_any _ p.feed _ h3 hlen).mono ?_
  rintro e w' ⟨v', rfl, hs, hbel⟩
  have hsz := hbel.size
  have hcl : ∀ b o, b < w.heap.size + 1 + 1 + 1 → w'.cell? ⟨b, o, none⟩ = _ := fun b o h => hbel.cell (p := ⟨b, o, none⟩) (by simpa using h)
  have hfr : ∀ b o, b < w.heap.size + 1 + 1 + 1 → w'.frozen? ⟨b, o, none⟩ = _ := fun b o h => hbel.frozen (p := ⟨b, o, none⟩) (by simpa using h)
  have hbb := hb3.trans (hbel.mono (by simp; omega))
  simp only [World.size_alloc] at hs hsz
  have HS : Hid (Events (w.heap.size + 1 + 1 + 1) w' v' p.feed) := hs
  obtain ⟨ao', cap', rfl, _⟩ := hs
  clear h3 hb1 hb2 hb3 hbel
  have HB : Hid (Below w.heap.size w w') := hbb
  clear hbb
  go_wp2
  exact bodyPost_ret (v := .agg #[.slice ao' p.feed.length cap', .int .i64 p.ticks, .int .i64 p.til]) (by simp [results, Try.results13, go_sem, hcl]) rfl ⟨_, rfl,
    ⟨_, rfl, ((((((HS.out.setCell _ (by simp) _).setCell _ (by simp) _).setCell _ (by simp) _).setCell _ (by simp) _).setCell _ (by simp) _).setCell _ (by simp) _).low (by omega)⟩,
    (((((HB.out.setCell (by simp; omega) _).setCell (by simp; omega) _).setCell (by simp; omega) _).setCell (by simp) _).setCell (by simp) _).setCell (by simp) _⟩

/-- laws.toPlan. -/
theorem toPlan_any (v : Value) (p : PlanD) (w : World) {lo : Nat} (hv : PlanV lo w v p) (hlen : p.bodies.length ≤ 1048576) (hlb : ∀ b ∈ p.bodies, b.length ≤ 1048576) (hlr : p.rooms.length ≤ 1048576) :
    Calls Try.prog 7 #[v] w fun e w' => ∃ v', e = .returned v' ∧ PlanV w.heap.size w' v' p ∧ Below w.heap.size w w' := by
  obtain ⟨v0, v1, rfl, hE, hI⟩ := hv
  have hb1 := (Below.refl w.heap.size w).alloc (Nat.le_refl _) (.cells #[v0, v1, .int .i64 p.slice] 25)
  have hb2 := hb1.alloc (by simp) (.cells #[.slice none 0 0, .slice none 0 0, .int .i64 0] 32)
  have hb3 := hb2.alloc (by simp; omega) (.cells #[.slice none 0 0, .slice none 0 0, .int .i64 0] 32)
  have h3 := hE.below hb3
  have HI : Hid (Ints lo w v1 p.rooms) := hI
  obtain ⟨ao, cap, rfl, _⟩ := hE
  obtain ⟨ai, capi, rfl, _⟩ := hI
  go_enter Try.func7, Try.ntmps7
  go_wp2_with fail
  refine (toBodyS_any _ p.bodies _ h3 hlen hlb).mono ?_
  rintro e w' ⟨v', rfl, hs, hbel⟩
  have hsz := hbel.size
  have hcl : ∀ b o, b < w.heap.size + 1 + 1 + 1 → w'.cell? ⟨b, o, none⟩ = _ := fun b o h => hbel.cell (p := ⟨b, o, none⟩) (by simpa using h)
  have hfr : ∀ b o, b < w.heap.size + 1 + 1 + 1 → w'.frozen? ⟨b, o, none⟩ = _ := fun b o h => hbel.frozen (p := ⟨b, o, none⟩) (by simpa using h)
  have hbb := hb3.trans (hbel.mono (by simp; omega))
  simp only [World.size_alloc] at hs hsz
  have HS : Hid (Bodies (w.heap.size + 1 + 1 + 1) w' v' p.bodies) := hs
  obtain ⟨ao', cap', rfl, _⟩ := hs
  clear h3 hb1 hb2 hb3 hbel
  have HB : Hid (Below w.heap.size w w') := hbb
  clear hbb
  go_wp2_with fail
  have hb4 : Below w.heap.size w (w'.setCell ⟨w.heap.size + 1 + 1, 0, none⟩ (.slice ao' p.bodies.length cap')) := HB.out.setCell (by simp; omega) _
  have hs4 : (w'.setCell ⟨w.heap.size + 1 + 1, 0, none⟩ (.slice ao' p.bodies.length cap')).heap.size = w'.heap.size := by simp [World.setCell]
  refine (toIntS_any _ p.rooms _ (HI.out.below hb4) hlr).mono ?_
  rintro e w2 ⟨v2, rfl, hi2, hbel2⟩
  have hsz2 := hbel2.size
  rw [hs4] at hi2 hsz2
  have hb5 := hb4.trans (hbel2.mono (by rw [hs4]; omega))
  have hS2 := (HS.out.setCell ⟨w.heap.size + 1 + 1, 0, none⟩ (by simp) (.slice ao' p.bodies.length cap')).below hbel2
  have d0 : ∀ o, w2.cell? ⟨w.heap.size, o, none⟩ = w'.cell? ⟨w.heap.size, o, none⟩ := fun o => by rw [hbel2.cell (p := ⟨w.heap.size, o, none⟩) (by simp [hs4]; omega)]; simp [go_sem]
  have d1 : ∀ o, w2.cell? ⟨w.heap.size + 1, o, none⟩ = w'.cell? ⟨w.heap.size + 1, o, none⟩ := fun o => by rw [hbel2.cell (p := ⟨w.heap.size + 1, o, none⟩) (by simp [hs4]; omega)]; simp [go_sem]
  have d2 : w2.cell? ⟨w.heap.size + 1 + 1, 0, none⟩ = some (.slice ao' p.bodies.length cap') := by rw [hbel2.cell (p := ⟨w.heap.size + 1 + 1, 0, none⟩) (by simp [hs4]; omega)]; simp [go_sem, hcl]
  have d3 : w2.cell? ⟨w.heap.size + 1 + 1, 1, none⟩ = some (.slice none 0 0) := by rw [hbel2.cell (p := ⟨w.heap.size + 1 + 1, 1, none⟩) (by simp [hs4]; omega)]; simp [go_sem, hcl]
  have d4 : w2.cell? ⟨w.heap.size + 1 + 1, 2, none⟩ = some (.int .i64 0) := by rw [hbel2.cell (p := ⟨w.heap.size + 1 + 1, 2, none⟩) (by simp [hs4]; omega)]; simp [go_sem, hcl]
  have g1 : ∀ o, w2.frozen? ⟨w.heap.size + 1, o, none⟩ = w'.frozen? ⟨w.heap.size + 1, o, none⟩ := fun o => by rw [hbel2.frozen (p := ⟨w.heap.size + 1, o, none⟩) (by simp [hs4]; omega)]; simp [go_sem]
  have g2 : ∀ o, w2.frozen? ⟨w.heap.size + 1 + 1, o, none⟩ = w'.frozen? ⟨w.heap.size + 1 + 1, o, none⟩ := fun o => by rw [hbel2.frozen (p := ⟨w.heap.size + 1 + 1, o, none⟩) (by simp [hs4]; omega)]; simp [go_sem]
  have HI2 : Hid (Ints w'.heap.size w2 v2 p.rooms) := hi2
  have HS2 : Hid (Bodies (w.heap.size + 1 + 1 + 1) w2 (.slice ao' p.bodies.length cap') p.bodies) := hS2
  have HB5 : Hid (Below w.heap.size w w2) := hb5
  obtain ⟨ai', capi', rfl, _⟩ := hi2
  clear hb4 hs4 hbel2 hb5 hS2 HI HS HB hlb
  go_wp2
  exact bodyPost_ret (v := .agg #[.slice ao' p.bodies.length cap', .slice ai' p.rooms.length capi', .int .i64 p.slice]) (by simp [results, Try.results7, go_sem, d1, hcl]) rfl ⟨_, rfl,
    ⟨_, _, rfl, (((((HS2.out.setCell _ (by simp) _).setCell _ (by simp) _).setCell _ (by simp) _).setCell _ (by simp) _).setCell _ (by simp) _).low (by omega),
      (((((HI2.out.setCell _ (by simp; omega) _).setCell _ (by simp; omega) _).setCell _ (by simp; omega) _).setCell _ (by simp; omega) _).setCell _ (by simp; omega) _).low (by omega)⟩,
    ((((HB5.out.setCell (by simp; omega) _).setCell (by simp; omega) _).setCell (by simp) _).setCell (by simp) _).setCell (by simp) _⟩
end Go.Proofs.Ytogfkahcpjibjaa
