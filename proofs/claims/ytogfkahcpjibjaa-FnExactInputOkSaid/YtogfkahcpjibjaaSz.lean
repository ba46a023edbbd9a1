import Derived.Test.YtogfkahcpjibjaaRows
import Derived.Test.YtogfkahcpjibjaaData
import Derived.WalkKit
import Derived.WalkSpells
namespace Go.Proofs.Ytogfkahcpjibjaa
open Go.RowKit

/-- laws.szStepS, szIntS, szEventS: the length is taken off. -/
theorem szStepS_any (ao : Option Addr) (len cap : Nat) (left : Int) (w : World) (hlen : len ≤ 9223372036854775807) (h0 : 0 ≤ left) (h1 : left ≤ 1048576) :
    Calls Try.prog 42 #[.slice ao len cap, .int .i64 left] w fun e w' => ∃ r : Int, e = .returned (.int .i64 r) ∧ r ≤ 1048576 ∧ (0 ≤ r → len ≤ 1048576) ∧ w' = w := by
  go_enter Try.func42, Try.ntmps42
  go_wp2
  all_goals go_ret
  · exact ⟨_, rfl, by omega, by omega, rfl⟩
  · exact ⟨_, rfl, by omega, by omega, rfl⟩
theorem szIntS_any (ao : Option Addr) (len cap : Nat) (left : Int) (w : World) (hlen : len ≤ 9223372036854775807) (h0 : 0 ≤ left) (h1 : left ≤ 1048576) :
    Calls Try.prog 17 #[.slice ao len cap, .int .i64 left] w fun e w' => ∃ r : Int, e = .returned (.int .i64 r) ∧ r ≤ 1048576 ∧ (0 ≤ r → len ≤ 1048576) ∧ w' = w := by
  go_enter Try.func17, Try.ntmps17
  go_wp2
  all_goals go_ret
  · exact ⟨_, rfl, by omega, by omega, rfl⟩
  · exact ⟨_, rfl, by omega, by omega, rfl⟩
theorem szEventS_any (ao : Option Addr) (len cap : Nat) (left : Int) (w : World) (hlen : len ≤ 9223372036854775807) (h0 : 0 ≤ left) (h1 : left ≤ 1048576) :
    Calls Try.prog 26 #[.slice ao len cap, .int .i64 left] w fun e w' => ∃ r : Int, e = .returned (.int .i64 r) ∧ r ≤ 1048576 ∧ (0 ≤ r → len ≤ 1048576) ∧ w' = w := by
  go_enter Try.func26, Try.ntmps26
  go_wp2
  all_goals go_ret
  · exact ⟨_, rfl, by omega, by omega, rfl⟩
  · exact ⟨_, rfl, by omega, by omega, rfl⟩

theorem szBody_any (ao : Option Addr) (len cap : Nat) (left : Int) (w : World) (hlen : len ≤ 9223372036854775807) (h0 : 0 ≤ left) (h1 : left ≤ 1048576) :
    Calls Try.prog 31 #[.agg #[.slice ao len cap], .int .i64 left] w fun e w' => ∃ r : Int, e = .returned (.int .i64 r) ∧ r ≤ 1048576 ∧ (0 ≤ r → len ≤ 1048576) ∧ Below w.heap.size w w' := by
  go_enter Try.func31, Try.ntmps31
  go_wp2_with (go_at_call 42; refine (szStepS_any _ _ _ _ _ hlen h0 h1).mono ?_; rintro e w' ⟨r, rfl, hr, hl, rfl⟩)
  all_goals go_ret
  · exact ⟨_, rfl, by omega, by omega, (Below.refl _ _).alloc (Nat.le_refl _) _⟩
  · exact ⟨_, rfl, by omega, by omega, (Below.refl _ _).alloc (Nat.le_refl _) _⟩

/-- laws.szBodyS. -/
theorem szBodyS_any (v : Value) (l : List (List StepD)) (left : Int) (w : World) {lo : Nat} (hv : Bodies lo w v l) (hlen : l.length ≤ 9223372036854775807) (hlb : ∀ b ∈ l, b.length ≤ 9223372036854775807) (h0 : 0 ≤ left) (h1 : left ≤ 1048576) :
    Calls Try.prog 16 #[v, .int .i64 left] w fun e w' => ∃ r : Int, e = .returned (.int .i64 r) ∧ r ≤ 1048576 ∧ (0 ≤ r → l.length ≤ 1048576 ∧ ∀ b ∈ l, b.length ≤ 1048576) ∧ Below w.heap.size w w' := by
  obtain ⟨ao, cap, rfl, hc⟩ := hv
  have hmem : ∀ i (h : i < l.length), l[i] ∈ l := fun i h => List.getElem_mem h
  go_enter Try.func16, Try.ntmps16
  go_wp2
  · go_ret
    exact ⟨_, rfl, by omega, by omega, Below.refl _ _⟩
  · have hs : l.length ≤ 1048576 := by omega
    go_loopw [1, 5] (fun t i wr => ∃ (k : Nat) (r : Int), k ≤ l.length ∧ i = .int .i64 k ∧ t = .int .i64 r ∧ 0 ≤ r ∧ r ≤ 1048576 ∧ (∀ j (h : j < l.length), j < k → (l[j]).length ≤ 1048576) ∧ Below w.heap.size w wr)
      (fun _ i _ => l.length - (intOf i).toNat)
    case atStart => exact ⟨0, _, by omega, rfl, rfl, by omega, by omega, fun j _ h => absurd h (by omega), Below.refl _ _⟩
    case round =>
      obtain ⟨k, r, hk, rfl, rfl, hr0, hr1, hall, hnx⟩ := hrel
      by_cases hlt : k < l.length
      · obtain ⟨b, off, rfl, _, hb, hcc⟩ := hc (by omega)
        obtain ⟨u, hu, hst⟩ := hcc k (by omega)
        obtain ⟨ao', cap', rfl, _⟩ := hst
        have hcell : wr.cell? ⟨b, off + k, none⟩ = some (.slice ao' (l[k]'(by omega)).length cap') := by rw [hnx.cell (by exact hb), ← hu, Nat.mul_one]
        have hbl := hlb _ (hmem k (by omega))
        obtain ⟨m, hm⟩ : ∃ m, m = (l[k]'(by omega)).length := ⟨_, rfl⟩
        rw [← hm] at hcell hbl
        clear hc hcc hu hlb hmem
        have HA : Hid (∀ j (h : j < l.length), j < k → (l[j]).length ≤ 1048576) := hall
        have HM : Hid (m = (l[k]'(by omega)).length) := hm
        clear hall hm
        go_wp2_with (go_at_call 31; refine (szBody_any _ _ _ _ _ hbl hr0 hr1).mono ?_; rintro e w' ⟨r', rfl, hr', hl', hbel⟩)
        · go_ret
          exact ⟨_, rfl, by omega, by omega, hnx.trans (hbel.mono hnx.size)⟩
        · go_roundw
          case rel =>
            refine ⟨k + 1, _, by omega, by go_num, rfl, by omega, by omega, fun j h hj => ?_, hnx.trans (hbel.mono hnx.size)⟩
            by_cases e : j = k
            · subst e; rw [← HM.out]; omega
            · exact HA.out j h (by omega)
          case measure => simp [intOf]; omega
      · clear hc hlb hmem
        have HA : Hid (∀ j (h : j < l.length), j < k → (l[j]).length ≤ 1048576) := hall
        clear hall
        go_wp2
        go_ret
        refine ⟨_, rfl, by omega, fun _ => ⟨by omega, fun b hbm => ?_⟩, hnx⟩
        obtain ⟨j, hj, rfl⟩ := List.getElem_of_mem hbm
        exact HA.out j hj (by omega)

/-- laws.szPlan. -/
theorem szPlan_any (v : Value) (p : PlanD) (left : Int) (w : World) {lo : Nat} (hv : PlanV lo w v p) (hlen : p.bodies.length ≤ 9223372036854775807) (hlb : ∀ b ∈ p.bodies, b.length ≤ 9223372036854775807) (hlr : p.rooms.length ≤ 9223372036854775807)
    (h0 : 0 ≤ left) (h1 : left ≤ 1048576) :
    Calls Try.prog 5 #[v, .int .i64 left] w fun e w' => ∃ r : Int, e = .returned (.int .i64 r) ∧ r ≤ 1048576 ∧ (0 ≤ r → p.bodies.length ≤ 1048576 ∧ (∀ b ∈ p.bodies, b.length ≤ 1048576) ∧ p.rooms.length ≤ 1048576) ∧ Below w.heap.size w w' := by
  obtain ⟨v0, v1, rfl, hB, hI⟩ := hv
  obtain ⟨ao, cap, rfl, _⟩ := hI
  have hbx := (Below.refl w.heap.size w).alloc (Nat.le_refl _) (.cells #[v0, .slice ao p.rooms.length cap, .int .i64 p.slice] 25)
  have hB2 := hB.below hbx
  obtain ⟨aB, cB, rfl, _⟩ := hB
  go_enter Try.func5, Try.ntmps5
  go_wp2_with fail
  refine (szBodyS_any _ _ _ _ hB2 hlen hlb h0 h1).mono ?_
  rintro e w' ⟨r, rfl, hr, hl, hbel⟩
  have hsz := hbel.size
  simp at hsz
  have hc1 : w'.cell? ⟨w.heap.size, 1, none⟩ = some (.slice ao p.rooms.length cap) := by rw [hbel.cell (by simp)]; simp
  have hb' := hbx.trans (hbel.mono (by simp))
  have HL : Hid (0 ≤ r → p.bodies.length ≤ 1048576 ∧ ∀ b ∈ p.bodies, b.length ≤ 1048576) := hl
  clear hl hB2 hlb
  by_cases hr0 : 0 ≤ r
  · go_wp2_with (go_at_call 17; refine (szIntS_any _ _ _ _ _ hlr hr0 hr).mono ?_; rintro e w'' ⟨r', rfl, hr', hl', rfl⟩)
    · go_ret
      exact ⟨_, rfl, by omega, by omega, hb'⟩
    · go_ret
      exact ⟨_, rfl, by omega, fun _ => ⟨(HL.out hr0).1, (HL.out hr0).2, by omega⟩, hb'⟩
  · go_wp2
    go_ret
    exact ⟨_, rfl, by omega, by omega, hb'⟩

/-- laws.szInput. -/
theorem szInput_any (v : Value) (p : InputD) (left : Int) (w : World) {lo : Nat} (hv : InputV lo w v p) (hlen : p.feed.length ≤ 9223372036854775807)
    (h0 : 0 ≤ left) (h1 : left ≤ 1048576) :
    Calls Try.prog 11 #[v, .int .i64 left] w fun e w' => ∃ r : Int, e = .returned (.int .i64 r) ∧ r ≤ 1048576 ∧ (0 ≤ r → p.feed.length ≤ 1048576) ∧ Below w.heap.size w w' := by
  obtain ⟨v0, rfl, hB⟩ := hv
  obtain ⟨ao, cap, rfl, _⟩ := hB
  go_enter Try.func11, Try.ntmps11
  go_wp2_with (go_at_call 26; refine (szEventS_any _ _ _ _ _ hlen h0 h1).mono ?_; rintro e w' ⟨r, rfl, hr, hl, rfl⟩)
  all_goals go_ret
  · exact ⟨_, rfl, by omega, by omega, (Below.refl _ _).alloc (Nat.le_refl _) _⟩
  · exact ⟨_, rfl, by omega, by omega, (Below.refl _ _).alloc (Nat.le_refl _) _⟩
end Go.Proofs.Ytogfkahcpjibjaa
