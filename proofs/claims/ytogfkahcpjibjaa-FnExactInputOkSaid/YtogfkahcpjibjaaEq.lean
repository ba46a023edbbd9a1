import Derived.Test.YtogfkahcpjibjaaRows
import Derived.Test.YtogfkahcpjibjaaData
import Derived.WalkKit
import Derived.WalkSpells
import Derived.Deep.RegionHeld3
import Derived.Deep.QuietTactic
import Derived.BigQuiet
namespace Go.Proofs.Ytogfkahcpjibjaa
open Go.RowKit

/-- laws.eqStep, eqEvent at equals. -/
theorem eqStep_any (a b c d e : Int) (w : World) :
    Calls Try.prog 52 #[.agg #[.int .i64 a, .int .i64 b, .int .i64 c, .int .i64 d, .int .i64 e], .agg #[.int .i64 a, .int .i64 b, .int .i64 c, .int .i64 d, .int .i64 e]] w fun x w' => x = .returned (.bool true) ∧ Below w.heap.size w w' := by
  go_enter Try.func52, Try.ntmps52
  go_wp2
  go_ret
  exact ⟨rfl, ((Below.refl _ _).alloc (Nat.le_refl _) _).alloc (by simp) _⟩
theorem eqEvent_any (a b c : Int) (w : World) :
    Calls Try.prog 41 #[.agg #[.int .i64 a, .int .i64 b, .int .i64 c], .agg #[.int .i64 a, .int .i64 b, .int .i64 c]] w fun x w' => x = .returned (.bool true) ∧ Below w.heap.size w w' := by
  go_enter Try.func41, Try.ntmps41
  go_wp2
  go_ret
  exact ⟨rfl, ((Below.refl _ _).alloc (Nat.le_refl _) _).alloc (by simp) _⟩

theorem eqIntS_any (u v : Value) (l : List Int) (w : World) {lo lo' : Nat} (hu : Ints lo w u l) (hv : Ints lo' w v l) (hlen : l.length ≤ 1048576) :
    Calls Try.prog 25 #[u, v] w fun e w' => e = .returned (.bool true) ∧ Below w.heap.size w w' := by
  obtain ⟨ao, cap, rfl, hc⟩ := hu
  obtain ⟨ao', cap', rfl, hc'⟩ := hv
  go_enter Try.func25, Try.ntmps25
  go_wp2
  go_loopw [5] (fun i wr => ∃ k : Nat, k ≤ l.length ∧ i = .int .i64 k ∧ Below w.heap.size w wr) (fun i _ => l.length - (intOf i).toNat)
  case atStart => exact ⟨0, Nat.zero_le _, rfl, Below.refl _ _⟩
  case round =>
    obtain ⟨k, hk, rfl, hnx⟩ := hrel
    by_cases hlt : k < l.length
    · obtain ⟨b, off, rfl, _, hb, hcc⟩ := hc (by omega)
      obtain ⟨b', off', rfl, _, hb', hcc'⟩ := hc' (by omega)
      have c0 := (rangeAt_below hnx (hcc k hlt) hb) 0 _ rfl
      have c1 := (rangeAt_below hnx (hcc' k hlt) hb') 0 _ rfl
      obtain ⟨s, hs⟩ : ∃ s, s = l[k]'hlt := ⟨_, rfl⟩
      rw [← hs, Nat.mul_one, Nat.add_zero] at c0 c1
      clear hc hcc hs hc' hcc'
      have i1 : (0 : Int) ≤ (k : Int) := by omega
      have i2 : (k : Int) < (l.length : Int) := by omega
      go_wp2
      go_region
      all_goals go_wp2
      all_goals go_roundw
      case rel => exact ⟨k + 1, by omega, by go_num, hnx.drew⟩
      case measure => simp [intOf]; omega
    · clear hc hc'
      go_wp2
      go_ret
      exact ⟨rfl, hnx⟩

theorem eqStepS_any (u v : Value) (l : List StepD) (w : World) {lo lo' : Nat} (hu : Steps lo w u l) (hv : Steps lo' w v l) (hlen : l.length ≤ 1048576) :
    Calls Try.prog 49 #[u, v] w fun e w' => e = .returned (.bool true) ∧ Below w.heap.size w w' := by
  obtain ⟨ao, cap, rfl, hc⟩ := hu
  obtain ⟨ao', cap', rfl, hc'⟩ := hv
  go_enter Try.func49, Try.ntmps49
  go_wp2
  go_loopw [5] (fun i wr => ∃ k : Nat, k ≤ l.length ∧ i = .int .i64 k ∧ Below w.heap.size w wr) (fun i _ => l.length - (intOf i).toNat)
  case atStart => exact ⟨0, Nat.zero_le _, rfl, Below.refl _ _⟩
  case round =>
    obtain ⟨k, hk, rfl, hnx⟩ := hrel
    by_cases hlt : k < l.length
    · obtain ⟨b, off, rfl, _, hb, hcc⟩ := hc (by omega)
      obtain ⟨b', off', rfl, _, hb', hcc'⟩ := hc' (by omega)
      obtain ⟨c0, c1, c2, c3, c4⟩ := step_cells (rangeAt_below hnx (hcc k hlt) hb)
      obtain ⟨e0, e1, e2, e3, e4⟩ := step_cells (rangeAt_below hnx (hcc' k hlt) hb')
      obtain ⟨s, hs⟩ : ∃ s, s = l[k]'hlt := ⟨_, rfl⟩
      rw [← hs] at c0 c1 c2 c3 c4 e0 e1 e2 e3 e4
      clear hc hcc hs hc' hcc'
      have i1 : (0 : Int) ≤ (k : Int) := by omega
      have i2 : (k : Int) < (l.length : Int) := by omega
      have hb1 : b < wr.heap.size := Nat.lt_of_lt_of_le hb hnx.size
      have hb2 : b' < wr.heap.size := Nat.lt_of_lt_of_le hb' hnx.size
      go_wp2
      go_region_with (go_at_call 52; refine (eqStep_any _ _ _ _ _ _).mono ?_; rintro e w' ⟨rfl, hbel⟩)
      all_goals
        go_wp2
        go_roundw
        case rel => exact ⟨k + 1, by omega, by go_num, hnx.drew.trans (hbel.mono hnx.size)⟩
        case measure => simp [intOf]; omega
    · clear hc hc'
      go_wp2
      go_ret
      exact ⟨rfl, hnx⟩

theorem eqEventS_any (u v : Value) (l : List EventD) (w : World) {lo lo' : Nat} (hu : Events lo w u l) (hv : Events lo' w v l) (hlen : l.length ≤ 1048576) :
    Calls Try.prog 30 #[u, v] w fun e w' => e = .returned (.bool true) ∧ Below w.heap.size w w' := by
  obtain ⟨ao, cap, rfl, hc⟩ := hu
  obtain ⟨ao', cap', rfl, hc'⟩ := hv
  go_enter Try.func30, Try.ntmps30
  go_wp2
  go_loopw [5] (fun i wr => ∃ k : Nat, k ≤ l.length ∧ i = .int .i64 k ∧ Below w.heap.size w wr) (fun i _ => l.length - (intOf i).toNat)
  case atStart => exact ⟨0, Nat.zero_le _, rfl, Below.refl _ _⟩
  case round =>
    obtain ⟨k, hk, rfl, hnx⟩ := hrel
    by_cases hlt : k < l.length
    · obtain ⟨b, off, rfl, _, hb, hcc⟩ := hc (by omega)
      obtain ⟨b', off', rfl, _, hb', hcc'⟩ := hc' (by omega)
      obtain ⟨c0, c1, c2⟩ := event_cells (rangeAt_below hnx (hcc k hlt) hb)
      obtain ⟨e0, e1, e2⟩ := event_cells (rangeAt_below hnx (hcc' k hlt) hb')
      obtain ⟨s, hs⟩ : ∃ s, s = l[k]'hlt := ⟨_, rfl⟩
      rw [← hs] at c0 c1 c2 e0 e1 e2
      clear hc hcc hs hc' hcc'
      have i1 : (0 : Int) ≤ (k : Int) := by omega
      have i2 : (k : Int) < (l.length : Int) := by omega
      go_wp2
      go_region_with (go_at_call 41; refine (eqEvent_any _ _ _ _).mono ?_; rintro e w' ⟨rfl, hbel⟩)
      all_goals
        go_wp2
        go_roundw
        case rel => exact ⟨k + 1, by omega, by go_num, hnx.drew.trans (hbel.mono hnx.size)⟩
        case measure => simp [intOf]; omega
    · clear hc hc'
      go_wp2
      go_ret
      exact ⟨rfl, hnx⟩

/-- laws.eqBody. -/
theorem eqBody_any (u v : Value) (l : List StepD) (w : World) {lo lo' : Nat} (hu : Steps lo w u l) (hv : Steps lo' w v l) (hlen : l.length ≤ 1048576) :
    Calls Try.prog 38 #[.agg #[u], .agg #[v]] w fun e w' => e = .returned (.bool true) ∧ Below w.heap.size w w' := by
  have hb1 := (Below.refl w.heap.size w).alloc (Nat.le_refl _) (.cells #[u] 53)
  have hb2 := hb1.alloc (by simp) (.cells #[v] 53)
  have hu2 := hu.below hb2
  have hv2 := hv.below hb2
  obtain ⟨ao, cap, rfl, _⟩ := hu
  obtain ⟨ao', cap', rfl, _⟩ := hv
  go_enter Try.func38, Try.ntmps38
  go_wp2_with fail
  refine (eqStepS_any _ _ l _ hu2 hv2 hlen).mono ?_
  rintro e w' ⟨rfl, hbel⟩
  clear hu2 hv2
  go_wp2
  go_ret
  exact ⟨rfl, hb2.trans (hbel.mono (by simp; omega))⟩

theorem eqBodyS_any (u v : Value) (l : List (List StepD)) (w : World) {lo lo' : Nat} (hu : Bodies lo w u l) (hv : Bodies lo' w v l) (hlen : l.length ≤ 1048576) (hlb : ∀ b ∈ l, b.length ≤ 1048576) :
    Calls Try.prog 24 #[u, v] w fun e w' => e = .returned (.bool true) ∧ Below w.heap.size w w' := by
  obtain ⟨ao, cap, rfl, hc⟩ := hu
  obtain ⟨ao', cap', rfl, hc'⟩ := hv
  have hmem : ∀ i (h : i < l.length), (l[i]).length ≤ 1048576 := fun i h => hlb _ (List.getElem_mem h)
  clear hlb
  go_enter Try.func24, Try.ntmps24
  go_wp2
  go_loopw [5] (fun i wr => ∃ k : Nat, k ≤ l.length ∧ i = .int .i64 k ∧ Below w.heap.size w wr) (fun i _ => l.length - (intOf i).toNat)
  case atStart => exact ⟨0, Nat.zero_le _, rfl, Below.refl _ _⟩
  case round =>
    obtain ⟨k, hk, rfl, hnx⟩ := hrel
    by_cases hlt : k < l.length
    · obtain ⟨b, off, rfl, _, hb, hcc⟩ := hc (by omega)
      obtain ⟨b', off', rfl, _, hb', hcc'⟩ := hc' (by omega)
      obtain ⟨x, hx, hsx⟩ := hcc k hlt
      obtain ⟨y, hy, hsy⟩ := hcc' k hlt
      rw [Nat.mul_one] at hx hy
      have c0 : wr.cell? ⟨b, off + k, none⟩ = some x := (hnx.cell (by exact hb)).trans hx
      have c1 : wr.cell? ⟨b', off' + k, none⟩ = some y := (hnx.cell (by exact hb')).trans hy
      have hsm := hmem k hlt
      have hsx' := (hsx.below hnx).below ((Below.refl _ wr).drew)
      have hsy' := (hsy.below hnx).below ((Below.refl _ wr).drew)
      obtain ⟨s, hs⟩ : ∃ s, s = l[k]'hlt := ⟨_, rfl⟩
      rw [← hs] at hsm hsx' hsy'
      have HX : Hid (Steps lo wr.drew x s) := hsx'
      have HY : Hid (Steps lo' wr.drew y s) := hsy'
      obtain ⟨ax, capx, rfl, _⟩ := hsx'
      obtain ⟨ay, capy, rfl, _⟩ := hsy'
      clear hc hcc hs hc' hcc' hx hy hsx hsy hmem
      have i1 : (0 : Int) ≤ (k : Int) := by omega
      have i2 : (k : Int) < (l.length : Int) := by omega
      go_wp2
      go_region_with (go_at_call 38; refine (eqBody_any _ _ s _ HX.out HY.out hsm).mono ?_; rintro e w' ⟨rfl, hbel⟩)
      all_goals
        go_wp2
        go_roundw
        case rel => exact ⟨k + 1, by omega, by go_num, hnx.drew.trans (hbel.mono hnx.size)⟩
        case measure => simp [intOf]; omega
    · clear hc hc' hmem
      go_wp2
      go_ret
      exact ⟨rfl, hnx⟩

/-- laws.eqPlan. -/
theorem eqPlan_any (u v : Value) (p : PlanD) (w : World) {lo lo' : Nat} (hu : PlanV lo w u p) (hv : PlanV lo' w v p) (hlen : p.bodies.length ≤ 1048576) (hlb : ∀ b ∈ p.bodies, b.length ≤ 1048576) (hlr : p.rooms.length ≤ 1048576) :
    Calls Try.prog 10 #[u, v] w fun e w' => e = .returned (.bool true) ∧ Below w.heap.size w w' := by
  obtain ⟨u0, u1, rfl, huB, huI⟩ := hu
  obtain ⟨v0, v1, rfl, hvB, hvI⟩ := hv
  have hb1 := (Below.refl w.heap.size w).alloc (Nat.le_refl _) (.cells #[u0, u1, .int .i64 p.slice] 32)
  have hb2 := hb1.alloc (by simp) (.cells #[v0, v1, .int .i64 p.slice] 32)
  have HB2 : Hid (Below w.heap.size w ((w.alloc (.cells #[u0, u1, .int .i64 p.slice] 32)).alloc (.cells #[v0, v1, .int .i64 p.slice] 32))) := hb2
  have huB2 := huB.below hb2
  have hvB2 := hvB.below hb2
  have huI2 := huI.below hb2
  have hvI2 := hvI.below hb2
  obtain ⟨a0, c0, rfl, _⟩ := huB
  obtain ⟨a1, c1, rfl, _⟩ := huI
  obtain ⟨a2, c2, rfl, _⟩ := hvB
  obtain ⟨a3, c3, rfl, _⟩ := hvI
  clear hb1 hb2
  go_enter Try.func10, Try.ntmps10
  go_wp2_with fail
  refine (eqBodyS_any _ _ _ _ huB2 hvB2 hlen hlb).mono ?_
  rintro e w' ⟨rfl, hbel⟩
  have hz := hbel.size
  simp only [World.size_alloc] at hz
  have huI3 := huI2.below hbel
  have hvI3 := hvI2.below hbel
  have hb3 := HB2.out.trans (hbel.mono (by simp; omega))
  have HB3 : Hid (Below w.heap.size w w') := hb3
  have HU : Hid (Ints lo w' _ p.rooms) := huI3
  have HV : Hid (Ints lo' w' _ p.rooms) := hvI3
  have hcl : ∀ b o, b < w.heap.size + 1 + 1 → w'.cell? ⟨b, o, none⟩ = _ := fun b o h => hbel.cell (p := ⟨b, o, none⟩) (by simpa using h)
  clear huB2 hvB2 huI2 hvI2 huI3 hvI3 hbel hb3 hlb HB2
  go_wp2_with fail
  refine (eqIntS_any _ _ _ _ HU.out HV.out hlr).mono ?_
  rintro e w'' ⟨rfl, hbel2⟩
  have hcl2 : ∀ b o, b < w'.heap.size → w''.cell? ⟨b, o, none⟩ = _ := fun b o h => hbel2.cell (p := ⟨b, o, none⟩) (by simpa using h)
  have HB4 : Hid (Below w.heap.size w w'') := HB3.out.trans (hbel2.mono (by omega))
  clear hbel2
  have hz1 : w.heap.size < w'.heap.size := by omega
  have hz2 : w.heap.size + 1 < w'.heap.size := by omega
  go_wp2
  go_ret
  exact ⟨rfl, HB4.out⟩

/-- laws.eqInput. -/
theorem eqInput_any (u v : Value) (p : InputD) (w : World) {lo lo' : Nat} (hu : InputV lo w u p) (hv : InputV lo' w v p) (hlen : p.feed.length ≤ 1048576) :
    Calls Try.prog 15 #[u, v] w fun e w' => e = .returned (.bool true) ∧ Below w.heap.size w w' := by
  obtain ⟨u0, rfl, huB⟩ := hu
  obtain ⟨v0, rfl, hvB⟩ := hv
  have hb1 := (Below.refl w.heap.size w).alloc (Nat.le_refl _) (.cells #[u0, .int .i64 p.ticks, .int .i64 p.til] 44)
  have hb2 := hb1.alloc (by simp) (.cells #[v0, .int .i64 p.ticks, .int .i64 p.til] 44)
  have HB2 : Hid (Below w.heap.size w ((w.alloc (.cells #[u0, .int .i64 p.ticks, .int .i64 p.til] 44)).alloc (.cells #[v0, .int .i64 p.ticks, .int .i64 p.til] 44))) := hb2
  have huB2 := huB.below hb2
  have hvB2 := hvB.below hb2
  obtain ⟨a0, c0, rfl, _⟩ := huB
  obtain ⟨a2, c2, rfl, _⟩ := hvB
  clear hb1 hb2
  go_enter Try.func15, Try.ntmps15
  go_wp2_with fail
  refine (eqEventS_any _ _ _ _ huB2 hvB2 hlen).mono ?_
  rintro e w' ⟨rfl, hbel⟩
  have hz := hbel.size
  simp only [World.size_alloc] at hz
  have HB3 : Hid (Below w.heap.size w w') := HB2.out.trans (hbel.mono (by simp; omega))
  have hcl : ∀ b o, b < w.heap.size + 1 + 1 → w'.cell? ⟨b, o, none⟩ = _ := fun b o h => hbel.cell (p := ⟨b, o, none⟩) (by simpa using h)
  clear huB2 hvB2 hbel HB2
  go_wp2
  go_ret
  exact ⟨rfl, HB3.out⟩
end Go.Proofs.Ytogfkahcpjibjaa
