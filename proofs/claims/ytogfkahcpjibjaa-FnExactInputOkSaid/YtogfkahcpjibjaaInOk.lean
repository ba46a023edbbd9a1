import Derived.Test.YtogfkahcpjibjaaRows
import Derived.Test.YtogfkahcpjibjaaData
import Derived.WalkKit
import Derived.WalkSpells
namespace Go.Proofs.Ytogfkahcpjibjaa
open Go.RowKit

def inB (a x b : Int) : Bool := decide (a ≤ x) && decide (x ≤ b)
def chanB (n : Nat) (c : Int) : Bool := decide (0 ≤ c) && decide (c < (n : Int))
theorem chan_in (n : Nat) (c : Int) : inB 0 c ((n : Int) - 1) = chanB n c := by
  unfold inB chanB
  congr 1
  by_cases h : c < (n : Int) <;> simp [h] <;> omega

/-- The feed is in order: what both functions reckon, event by event. -/
def evOk (rooms : Nat) (last : Int) (e : EventD) : Bool := !(decide (e.time < last)) && !(decide (1000000 < e.time)) && chanB rooms e.chan
def feedOkB (rooms : Nat) : Int → List EventD → Bool
  | _, [] => true
  | last, e :: r => evOk rooms last e && feedOkB rooms e.time r
def feedB (rooms : Nat) (l : List EventD) : Bool := feedOkB rooms 0 l
def inOkB (p : PlanD) (i : InputD) : Bool :=
  decide (i.feed.length ≤ 100) && inB 0 i.ticks 5000 && inB 0 i.til 1000000 && feedB p.rooms.length i.feed

theorem l1in_any (x a b : Int) (w : World) : Calls Try.prog 18 #[.int .i64 x, .int .i64 a, .int .i64 b] w fun e w' => e = .returned (.bool (inB a x b)) ∧ w' = w := by
  by_cases h1 : a ≤ x <;> by_cases h2 : x ≤ b
  all_goals
    go_enter Try.func18, Try.ntmps18
    go_wp2
    go_ret
    exact ⟨by simp [inB, h1, h2], rfl⟩
theorem isTime_any (x : Int) (w : World) : Calls Try.prog 28 #[.int .i64 x] w fun e w' => e = .returned (.bool (inB 0 x 1000000)) ∧ w' = w := by
  by_cases h1 : 0 ≤ x <;> by_cases h2 : x ≤ 1000000
  all_goals
    go_enter Try.func28, Try.ntmps28
    go_wp2
    go_ret
    exact ⟨by simp [inB, h1, h2], rfl⟩
theorem hasChan_any (v0 : Value) (ao : Option Addr) (len cap : Nat) (s c : Int) (w : World) :
    Calls Try.prog 40 #[.agg #[v0, .slice ao len cap, .int .i64 s], .int .i64 c] w fun e w' => e = .returned (.bool (chanB len c)) ∧ Below w.heap.size w w' := by
  by_cases h1 : 0 ≤ c <;> by_cases h2 : c < (len : Int)
  all_goals
    go_enter Try.func40, Try.ntmps40
    go_wp2
    go_ret
    exact ⟨by simp [chanB, h1, h2], (Below.refl _ _).alloc (Nat.le_refl _) _⟩

theorem feed_hit {rooms : Nat} {last : Int} {l : List EventD} {k : Nat} (hk : k < l.length) (h1 : ¬ (l[k]).time < last) (h2 : ¬ 1000000 < (l[k]).time) (h3 : chanB rooms (l[k]).chan = true) :
    feedOkB rooms last (l.drop k) = feedOkB rooms (l[k]).time (l.drop (k + 1)) := by
  rw [List.drop_eq_getElem_cons hk]
  simp [feedOkB, evOk, h1, h2, h3]
theorem feed_miss {rooms : Nat} {last : Int} {l : List EventD} {k : Nat} (hk : k < l.length) (h : (l[k]).time < last ∨ 1000000 < (l[k]).time ∨ chanB rooms (l[k]).chan = false) :
    feedOkB rooms last (l.drop k) = false := by
  rw [List.drop_eq_getElem_cons hk]
  rcases h with h | h | h <;> simp [feedOkB, evOk, h]
theorem feed_end {rooms : Nat} {last : Int} {l : List EventD} {k : Nat} (hk : l.length ≤ k) : feedOkB rooms last (l.drop k) = true := by
  rw [List.drop_eq_nil_of_le hk]; rfl

/-- impl.feedOk. -/
theorem feedOk_any (v : Value) (l : List EventD) (v0 : Value) (v1 : Value) (rooms : List Int) (sl : Int) (w : World) {lo lo' : Nat} (hv : Events lo w v l) (hI : Ints lo' w v1 rooms) (hlen : l.length ≤ 1048576) (hv0 : ∃ a n c, v0 = .slice a n c) :
    Calls Try.prog 29 #[v, .agg #[v0, v1, .int .i64 sl]] w fun e w' => e = .returned (.bool (decide (l.length ≤ 100) && feedB rooms.length l)) ∧ Below w.heap.size w w' := by
  obtain ⟨ao, cap, rfl, hc⟩ := hv
  obtain ⟨ai, capi, rfl, _⟩ := hI
  obtain ⟨az, nz, cz, rfl⟩ := hv0
  obtain ⟨rn, hrn⟩ : ∃ rn, rn = rooms.length := ⟨_, rfl⟩
  rw [← hrn]
  have HR := hrn
  clear hrn HR
  by_cases h100 : l.length ≤ 100
  · go_enter Try.func29, Try.ntmps29
    go_wp2
    go_loopw [5, 13] (fun t i wr => ∃ (k : Nat) (last : Int), k ≤ l.length ∧ i = .int .i64 k ∧ t = .int .i64 last ∧ Hid (feedB rn l = feedOkB rn last (l.drop k)) ∧ w.heap.size < wr.heap.size ∧ (∀ o, wr.cell? ⟨w.heap.size, o, none⟩ = (w.alloc (.cells #[.slice az nz cz, .slice ai rn capi, .int .i64 sl] 32)).cell? ⟨w.heap.size, o, none⟩) ∧ Below w.heap.size w wr) (fun _ i _ => l.length - (intOf i).toNat)
    case atStart => exact ⟨0, 0, Nat.zero_le _, rfl, rfl, rfl, by simp, fun _ => rfl, (Below.refl _ _).alloc (Nat.le_refl _) _⟩
    case round =>
      obtain ⟨k, last, hk, rfl, rfl, hfe, hsz, hbox, hnx⟩ := hrel
      by_cases hlt : k < l.length
      · obtain ⟨b, off, rfl, _, hb, hcc⟩ := hc (by omega)
        obtain ⟨c0, c1, c2⟩ := event_cells (rangeAt_below hnx (hcc k hlt) hb)
        have M := @feed_miss rn last l k hlt
        have Y := @feed_hit rn last l k hlt
        obtain ⟨s, hs⟩ : ∃ s, s = l[k]'hlt := ⟨_, rfl⟩
        rw [← hs] at c0 c1 c2 M Y
        have HM := hid M
        have HY := hid Y
        clear hc hcc hs M Y
        by_cases h1 : s.time < last
        · go_wp2
          go_ret
          exact ⟨by rw [hfe.out, HM (.inl h1)]; simp, hnx.alloc (by omega) _⟩
        · by_cases h2 : 1000000 < s.time
          · go_wp2
            go_ret
            exact ⟨by rw [hfe.out, HM (.inr (.inl h2))]; simp, hnx.alloc (by omega) _⟩
          · cases h3 : chanB rn s.chan with
            | true =>
              have hz : w.heap.size ≠ wr.heap.size := by omega
              go_wp2_with fail
              refine (hasChan_any _ _ _ _ _ _ _).mono ?_
              rintro e w' ⟨rfl, hbel⟩
              have hcl : ∀ b o, b < wr.heap.size + 1 → w'.cell? ⟨b, o, none⟩ = _ := fun b o h => hbel.cell (p := ⟨b, o, none⟩) (by simpa using h)
              have HN : Hid (Below w.heap.size w w') := (hnx.alloc (by omega) _).trans (hbel.mono (by simp; omega))
              have HZ := hbel.size
              simp only [World.size_alloc] at HZ
              clear hbel
              go_wp2
              go_roundw
              case rel => exact ⟨k + 1, s.time, by omega, by go_num, rfl, hfe.out.trans (HY h1 h2 h3), by omega, fun o => by rw [hcl _ _ (by omega)]; simp [go_sem, hbox, hsz], HN.out⟩
              case measure => simp [intOf]; omega
            | false =>
              have hz : w.heap.size ≠ wr.heap.size := by omega
              go_wp2_with fail
              refine (hasChan_any _ _ _ _ _ _ _).mono ?_
              rintro e w' ⟨rfl, hbel⟩
              go_wp2
              go_ret
              exact ⟨by rw [hfe.out, HM (.inr (.inr h3))]; simp, (hnx.alloc (by omega) _).trans (hbel.mono (by simp; omega))⟩
      · clear hc
        go_wp2
        go_ret
        exact ⟨by rw [hfe.out, feed_end (by omega)]; simp [h100], hnx⟩
  · go_enter Try.func29, Try.ntmps29
    go_wp2
    go_ret
    exact ⟨by simp [h100], (Below.refl _ _).alloc (Nat.le_refl _) _⟩

theorem inB_no1 {a x b : Int} (h : x < a) : inB a x b = false := by simp [inB]; omega
theorem inB_no2 {a x b : Int} (h : b < x) : inB a x b = false := by simp [inB]; omega
theorem inB_yes {a x b : Int} (h : ¬ x < a) (h' : ¬ b < x) : inB a x b = true := by simp [inB]; omega

/-- impl.InputOk. -/
theorem implInputOk_any (u v : Value) (p : PlanD) (i : InputD) (w : World) {lo lo' : Nat} (hp : PlanV lo w u p) (hi : InputV lo' w v i) (hlen : i.feed.length ≤ 1048576) :
    Calls Try.prog 14 #[u, v] w fun e w' => e = .returned (.bool (inOkB p i)) ∧ Below w.heap.size w w' := by
  obtain ⟨u0, u1, rfl, hB, hI⟩ := hp
  obtain ⟨v0, rfl, hE⟩ := hi
  have hb1 := (Below.refl w.heap.size w).alloc (Nat.le_refl _) (.cells #[u0, u1, .int .i64 p.slice] 32)
  have hb2 := hb1.alloc (by simp) (.cells #[v0, .int .i64 i.ticks, .int .i64 i.til] 44)
  have hE2 := hE.below hb2
  have hI2 := hI.below hb2
  have HB2 := hid hb2
  obtain ⟨a0, c0, rfl, _⟩ := hB
  obtain ⟨a1, c1, rfl, _⟩ := hI
  obtain ⟨a2, c2, rfl, _⟩ := hE
  clear hb1 hb2
  by_cases h1 : i.ticks < 0
  · clear hE2 hI2
    go_enter Try.func14, Try.ntmps14
    go_wp2
    go_ret
    exact ⟨by simp [inOkB, inB_no1 h1], HB2⟩
  by_cases h2 : 5000 < i.ticks
  · clear hE2 hI2
    go_enter Try.func14, Try.ntmps14
    go_wp2
    go_ret
    exact ⟨by simp [inOkB, inB_no2 h2], HB2⟩
  cases h3 : inB 0 i.til 1000000 with
  | false =>
    clear hE2 hI2
    go_enter Try.func14, Try.ntmps14
    go_wp2_with fail
    refine (isTime_any _ _).mono ?_
    rintro e w' ⟨rfl, rfl⟩
    go_wp2
    go_ret
    exact ⟨by simp [inOkB, h3], HB2⟩
  | true =>
    have HE := hid hE2
    have HI := hid hI2
    clear hE2 hI2
    go_enter Try.func14, Try.ntmps14
    go_wp2_with fail
    refine (isTime_any _ _).mono ?_
    rintro e w' ⟨rfl, rfl⟩
    go_wp2_with fail
    refine (feedOk_any _ _ _ _ _ _ _ HE HI hlen ⟨_, _, _, rfl⟩).mono ?_
    rintro e w' ⟨rfl, hbel⟩
    go_wp2
    go_ret
    exact ⟨by simp [inOkB, h3, inB_yes (a := 0) (x := i.ticks) (b := 5000) (by omega) (by omega)], HB2.out.trans (hbel.mono (by simp; omega))⟩

theorem ret_bool {a b : Bool} (h : a = b) : Ending.returned (.bool a) = .returned (.bool b) := by rw [h]

/-- spec.InputOk. -/
theorem specInputOk_any (u v : Value) (p : PlanD) (i : InputD) (w : World) {lo lo' : Nat} (hp : PlanV lo w u p) (hi : InputV lo' w v i) (hlen : i.feed.length ≤ 1048576) (hlr : p.rooms.length ≤ 1048576) :
    Calls Try.prog 12 #[u, v] w fun e w' => e = .returned (.bool (inOkB p i)) ∧ Below w.heap.size w w' := by
  obtain ⟨u0, u1, rfl, hB, hI⟩ := hp
  obtain ⟨v0, rfl, hE⟩ := hi
  have hb1 := (Below.refl w.heap.size w).alloc (Nat.le_refl _) (.cells #[u0, u1, .int .i64 p.slice] 32)
  have hb2 := hb1.alloc (by simp) (.cells #[v0, .int .i64 i.ticks, .int .i64 i.til] 44)
  have HB2 := hid hb2
  obtain ⟨a0, c0, rfl, _⟩ := hB
  obtain ⟨a1, c1, rfl, _⟩ := hI
  obtain ⟨a2, c2, rfl, hc⟩ := hE
  obtain ⟨rn, hrn⟩ : ∃ rn, rn = p.rooms.length := ⟨_, rfl⟩
  obtain ⟨R, HR⟩ : ∃ R, Hid (R = (decide (i.feed.length ≤ 100) && inB 0 i.ticks 5000 && inB 0 i.til 1000000 && feedB rn i.feed)) := ⟨_, rfl⟩
  rw [show inOkB p i = R by rw [HR.out, hrn]; rfl]
  rw [← hrn] at hlr HB2 ⊢
  clear hb1 hb2 hrn
  generalize i.feed = l at *
  by_cases h0 : l.length ≤ 100
  case neg =>
    clear hc
    go_enter Try.func12, Try.ntmps12
    go_wp2
    go_ret
    exact ⟨ret_bool (by rw [HR.out]; simp; omega), HB2⟩
  cases h1 : inB 0 i.ticks 5000 with
  | false =>
    clear hc
    go_enter Try.func12, Try.ntmps12
    go_wp2_with fail
    refine (l1in_any _ _ _ _).mono ?_
    rintro e w' ⟨rfl, rfl⟩
    go_wp2
    go_ret
    exact ⟨ret_bool (by rw [HR.out]; simp [h1]), HB2⟩
  | true =>
  by_cases h2 : i.til < 0
  · clear hc
    go_enter Try.func12, Try.ntmps12
    go_wp2_with fail
    refine (l1in_any _ _ _ _).mono ?_
    rintro e w' ⟨rfl, rfl⟩
    go_wp2
    go_ret
    exact ⟨ret_bool (by rw [HR.out]; simp [inB_no1 h2]), HB2⟩
  by_cases h3 : 1000000 < i.til
  · clear hc
    go_enter Try.func12, Try.ntmps12
    go_wp2_with fail
    refine (l1in_any _ _ _ _).mono ?_
    rintro e w' ⟨rfl, rfl⟩
    go_wp2
    go_ret
    exact ⟨ret_bool (by rw [HR.out]; simp [inB_no2 h3]), HB2⟩
  go_enter Try.func12, Try.ntmps12
  go_wp2_with fail
  refine (l1in_any _ _ _ _).mono ?_
  rintro e w' ⟨rfl, rfl⟩
  go_wp2
  have HE : Hid (R = feedB rn l) := by
    show R = _
    rw [HR.out, inB_yes (a := 0) (x := i.til) (b := 1000000) (by omega) (by omega), h1]; simp; omega
  go_loopw [5, 31] (fun t i wr => ∃ (k : Nat) (last : Int), k ≤ l.length ∧ i = .int .i64 k ∧ t = .int .i64 last ∧ Hid (feedB rn l = feedOkB rn last (l.drop k)) ∧ w.heap.size + 1 < wr.heap.size ∧ wr.cell? ⟨w.heap.size, 1, none⟩ = some (.slice a1 rn c1) ∧ Below w.heap.size w wr) (fun _ i _ => l.length - (intOf i).toNat)
  case atStart => exact ⟨0, 0, Nat.zero_le _, rfl, rfl, rfl, by simp, by simp [go_sem], HB2⟩
  case round =>
    obtain ⟨k, last, hk, rfl, rfl, hfe, hsz, hbox, hnx⟩ := hrel
    by_cases hlt : k < l.length
    · obtain ⟨b, off, rfl, _, hb, hcc⟩ := hc (by omega)
      obtain ⟨c0, c1, c2⟩ := event_cells (rangeAt_below hnx (hcc k hlt) hb)
      have M := @feed_miss rn last l k hlt
      have Y := @feed_hit rn last l k hlt
      obtain ⟨s, hs⟩ : ∃ s, s = l[k]'hlt := ⟨_, rfl⟩
      rw [← hs] at c0 c1 c2 M Y
      have HM := hid M
      have HY := hid Y
      clear hc hcc hs M Y
      by_cases g1 : s.time < last
      · go_wp2
        go_ret
        exact ⟨ret_bool (by rw [HE.out, hfe.out, HM (.inl g1)]), hnx.alloc (by omega) _⟩
      · by_cases g2 : 1000000 < s.time
        · go_wp2
          go_ret
          exact ⟨ret_bool (by rw [HE.out, hfe.out, HM (.inr (.inl g2))]), hnx.alloc (by omega) _⟩
        · cases g3 : chanB rn s.chan with
          | true =>
            have hz : w.heap.size ≠ wr.heap.size := by omega
            have hz' : w.heap.size < wr.heap.size := by omega
            go_wp2_with fail
            refine (l1in_any _ _ _ _).mono ?_
            rintro e w' ⟨rfl, rfl⟩
            rw [chan_in, g3]
            go_wp2
            go_roundw
            case rel => exact ⟨k + 1, s.time, by omega, by go_num, rfl, hfe.out.trans (HY g1 g2 g3), by simp; omega, by simp [go_sem, hbox, hz'], hnx.alloc (by omega) _⟩
            case measure => simp [intOf]; omega
          | false =>
            have hz : w.heap.size ≠ wr.heap.size := by omega
            have hz' : w.heap.size < wr.heap.size := by omega
            go_wp2_with fail
            refine (l1in_any _ _ _ _).mono ?_
            rintro e w' ⟨rfl, rfl⟩
            rw [chan_in, g3]
            go_wp2
            go_ret
            exact ⟨ret_bool (by rw [HE.out, hfe.out, HM (.inr (.inr g3))]), hnx.alloc (by omega) _⟩
    · clear hc
      go_wp2
      go_ret
      exact ⟨ret_bool (by rw [HE.out, hfe.out, feed_end (by omega)]), hnx⟩
end Go.Proofs.Ytogfkahcpjibjaa
