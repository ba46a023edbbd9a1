import Derived.Test.YtogfkahcpjibjaaShape
namespace Go.Proofs.Ytogfkahcpjibjaa
open Go.RowKit

def roomsB (l : List Int) : Bool := l.all fun r => inB 0 r 10
theorem rooms_hit {l : List Int} {k : Nat} (hk : k < l.length) (h : inB 0 l[k] 10 = true) : roomsB (l.drop k) = roomsB (l.drop (k + 1)) := by
  rw [List.drop_eq_getElem_cons hk]; show (inB 0 l[k] 10 && roomsB (l.drop (k + 1))) = _; rw [h]; rfl
theorem rooms_miss {l : List Int} {k : Nat} (hk : k < l.length) (h : inB 0 l[k] 10 = false) : roomsB (l.drop k) = false := by
  rw [List.drop_eq_getElem_cons hk]; show (inB 0 l[k] 10 && roomsB (l.drop (k + 1))) = _; rw [h]; rfl
theorem rooms_end {l : List Int} {k : Nat} (hk : l.length ≤ k) : roomsB (l.drop k) = true := by
  rw [List.drop_eq_nil_of_le hk]; rfl

/-- The first body that is too long. -/
def longAt : Nat → List (List StepD) → Option Nat
  | _, [] => none
  | i, b :: r => if 200 < b.length then some i else longAt (i + 1) r
theorem long_hit {l : List (List StepD)} {k : Nat} (hk : k < l.length) (h : ¬ 200 < (l[k]).length) : longAt k (l.drop k) = longAt (k + 1) (l.drop (k + 1)) := by
  rw [List.drop_eq_getElem_cons hk]; simp [longAt, h]
theorem long_miss {l : List (List StepD)} {k : Nat} (hk : k < l.length) (h : 200 < (l[k]).length) : longAt k (l.drop k) = some k := by
  rw [List.drop_eq_getElem_cons hk]; simp [longAt, h]
theorem long_end {l : List (List StepD)} {k : Nat} (hk : l.length ≤ k) : longAt k (l.drop k) = none := by
  rw [List.drop_eq_nil_of_le hk]; rfl

/-- impl.roomsOk. -/
theorem roomsOk_any (v : Value) (l : List Int) (w : World) {lo : Nat} (hv : Ints lo w v l) (hlen : l.length ≤ 1048576) :
    Calls Try.prog 44 #[v] w fun e w' => e = .returned (.bool (decide (l.length ≤ 10) && roomsB l)) ∧ w' = w := by
  obtain ⟨ao, cap, rfl, hc⟩ := hv
  obtain ⟨R, HR⟩ : ∃ R, Hid (R = (decide (l.length ≤ 10) && roomsB l)) := ⟨_, rfl⟩
  rw [← HR.out]
  by_cases h10 : l.length ≤ 10
  case neg =>
    clear hc
    go_enter Try.func44, Try.ntmps44
    go_wp2
    go_ret
    exact ⟨ret_bool (by rw [HR.out]; simp; omega), rfl⟩
  · have HE : Hid (R = roomsB l) := by show R = _; rw [HR.out]; simp [h10]
    go_enter Try.func44, Try.ntmps44
    go_wp2
    go_loop [10] (fun i => ∃ k : Nat, k ≤ l.length ∧ i = .int .i64 k ∧ Hid (R = roomsB (l.drop k))) (fun i => l.length - (intOf i).toNat)
    case atStart => exact ⟨0, Nat.zero_le _, rfl, HE.out⟩
    case round =>
      obtain ⟨k, hk, rfl, hinv⟩ := hrel
      by_cases hlt : k < l.length
      · obtain ⟨b, off, rfl, _, hb, hcc⟩ := hc (by omega)
        have c0 := (hcc k hlt) 0 _ rfl
        have Y := @rooms_hit l k hlt
        have M := @rooms_miss l k hlt
        obtain ⟨s, hs⟩ : ∃ s, s = l[k]'hlt := ⟨_, rfl⟩
        rw [← hs, Nat.mul_one, Nat.add_zero] at c0
        rw [← hs] at Y M
        have HY := hid Y
        have HM := hid M
        clear hc hcc hs Y M
        by_cases h1 : s < 0
        · go_wp2
          go_ret
          exact ⟨ret_bool (by rw [hinv.out, HM.out (inB_no1 h1)]), rfl⟩
        · by_cases h2 : 10 < s
          · go_wp2
            go_ret
            exact ⟨ret_bool (by rw [hinv.out, HM.out (inB_no2 h2)]), rfl⟩
          · go_wp2
            go_round
            case rel => exact ⟨k + 1, by omega, by go_num, hinv.out.trans (HY.out (inB_yes (by omega) (by omega)))⟩
            case measure => simp [intOf]; omega
      · clear hc
        go_wp2
        go_ret
        exact ⟨ret_bool (by rw [hinv.out, rooms_end (by omega)]), rfl⟩

/-- The faults 1 to 3. -/
def boundsD (p : PlanD) : Int × Int × Int :=
  if p.bodies.length = 0 ∨ 20 < p.bodies.length then (1, 0, 0)
  else if (decide (p.rooms.length ≤ 10) && roomsB p.rooms && inB 1 p.slice 100) = false then (2, 0, 0)
  else match longAt 0 p.bodies with
    | some b => (3, (b : Int), 0)
    | none => (0, 0, 0)
def fvalue (x : Int × Int × Int) : Value := .agg #[.int .i64 x.1, .int .i64 x.2.1, .int .i64 x.2.2]

theorem below_three {B b : Nat} {a w : World} (h : Below B a w) (hb : B ≤ b) (x y z : Value) : Below B a (((w.setCell ⟨b, 0, none⟩ x).setCell ⟨b, 1, none⟩ y).setCell ⟨b, 2, none⟩ z) :=
  ((h.setCell (p := ⟨b, 0, none⟩) hb x).setCell (p := ⟨b, 1, none⟩) hb y).setCell (p := ⟨b, 2, none⟩) hb z

set_option maxHeartbeats 2000000 in
/-- impl.boundsFault. -/
theorem boundsFault_any (u : Value) (p : PlanD) (w : World) {lo : Nat} (hp : PlanV lo w u p) (hlr : p.rooms.length ≤ 1048576) :
    Calls Try.prog 35 #[u] w fun e w' => e = .returned (.agg #[.int .i64 (boundsD p).1, .int .i64 (boundsD p).2.1, .int .i64 (boundsD p).2.2]) ∧ Below w.heap.size w w' := by
  obtain ⟨u0, u1, rfl, hB, hI⟩ := hp
  have hI0 := hI
  obtain ⟨a0, c0, rfl, hc⟩ := hB
  obtain ⟨a1, c1, rfl, _⟩ := hI
  obtain ⟨X, hX⟩ : ∃ X, X = boundsD p := ⟨_, rfl⟩
  rw [← hX]
  obtain ⟨W, hW⟩ : ∃ W, W = (w.alloc (.cells #[.slice a0 p.bodies.length c0, .slice a1 p.rooms.length c1, .int .i64 p.slice] 32)).alloc (.cells #[.int .i64 0, .int .i64 0, .int .i64 0] 28) := ⟨_, rfl⟩
  have hbW : Below w.heap.size w W := by rw [hW]; exact ((Below.refl _ _).alloc (Nat.le_refl _) _).alloc (by simp) _
  have hsW : W.heap.size = w.heap.size + 1 + 1 := by rw [hW]; simp
  have hc0 : ∀ o, W.cell? ⟨w.heap.size, o, none⟩ = #[Value.slice a0 p.bodies.length c0, .slice a1 p.rooms.length c1, .int .i64 p.slice][o]? := by intro o; rw [hW]; simp [go_sem]
  have hc1 : ∀ o, W.cell? ⟨w.heap.size + 1, o, none⟩ = #[Value.int .i64 0, .int .i64 0, .int .i64 0][o]? := by intro o; rw [hW]; simp [go_sem]
  have hf1 : ∀ o, W.frozen? ⟨w.heap.size + 1, o, none⟩ = false := by intro o; rw [hW]; simp [go_sem]
  have HX := hid hX
  have HBW := hid hbW
  have HI := hid hI0
  have HW := hid hW
  clear hX hI0 hbW
  by_cases h1 : p.bodies.length = 0
  · have e : X = (1, 0, 0) := by rw [HX.out]; simp [boundsD, h1]
    have h1' : (((p.bodies.length : Nat) : Int) == 0) = true := by simp [h1]
    have HE := hid e
    clear e hc hW h1
    go_enter Try.func35, Try.ntmps35
    go_wp2
    exact bodyPost_ret (v := .agg #[.int .i64 1, .int .i64 0, .int .i64 0]) (by simp [results, Try.results35, go_sem]) rfl ⟨by rw [HE.out], ((Below.refl _ _).alloc (Nat.le_refl _) _).alloc (by simp) _⟩
  have h1' : (((p.bodies.length : Nat) : Int) == 0) = false := by simp [h1]
  by_cases h2 : 20 < p.bodies.length
  · have e : X = (1, 0, 0) := by rw [HX.out]; simp [boundsD, h2]
    have HE := hid e
    clear e hc hW h1
    go_enter Try.func35, Try.ntmps35
    go_wp2
    exact bodyPost_ret (v := .agg #[.int .i64 1, .int .i64 0, .int .i64 0]) (by simp [results, Try.results35, go_sem]) rfl ⟨by rw [HE.out], ((Below.refl _ _).alloc (Nat.le_refl _) _).alloc (by simp) _⟩
  have e12 : ¬ (p.bodies.length = 0 ∨ 20 < p.bodies.length) := by omega
  have H12 := hid e12
  have h2' : p.bodies.length ≤ 20 := by omega
  clear e12 h1 h2
  go_enter Try.func35, Try.ntmps35
  go_wp2_with fail
  rw [← hW]
  clear hW
  refine (roomsOk_any _ p.rooms _ (HI.out.below HBW.out) hlr).mono ?_
  rintro e W ⟨rfl, rfl⟩
  cases hro : (decide (p.rooms.length ≤ 10) && roomsB p.rooms) with
  | false =>
    have e : X = (2, 0, 0) := by rw [HX.out, boundsD, if_neg (by have := H12.out; omega), if_pos (by rw [hro]; rfl)]
    have HE := hid e
    clear e hc
    go_wp2
    exact bodyPost_ret (v := .agg #[.int .i64 2, .int .i64 0, .int .i64 0]) (by simp [results, Try.results35, go_sem, hc1]) rfl ⟨by rw [HE.out], below_three HBW.out (by omega) _ _ _⟩
  | true =>
    by_cases h3 : p.slice < 1
    · have e : X = (2, 0, 0) := by rw [HX.out, boundsD, if_neg (by have := H12.out; omega), if_pos (by rw [hro, inB_no1 h3]; rfl)]
      have HE := hid e
      clear e hc
      go_wp2
      exact bodyPost_ret (v := .agg #[.int .i64 2, .int .i64 0, .int .i64 0]) (by simp [results, Try.results35, go_sem, hc1]) rfl ⟨by rw [HE.out], below_three HBW.out (by omega) _ _ _⟩
    by_cases h4 : 100 < p.slice
    · have e : X = (2, 0, 0) := by rw [HX.out, boundsD, if_neg (by have := H12.out; omega), if_pos (by rw [hro, inB_no2 h4]; rfl)]
      have HE := hid e
      clear e hc
      go_wp2
      exact bodyPost_ret (v := .agg #[.int .i64 2, .int .i64 0, .int .i64 0]) (by simp [results, Try.results35, go_sem, hc1]) rfl ⟨by rw [HE.out], below_three HBW.out (by omega) _ _ _⟩
    have eX : X = (match longAt 0 p.bodies with | some b => (3, (b : Int), 0) | none => (0, 0, 0)) := by
      rw [HX.out, boundsD, if_neg (by have := H12.out; omega), if_neg (by rw [hro, inB_yes h3 h4]; simp)]
    have HEX := hid eX
    clear eX
    go_wp2
    go_loopw [34] (fun i wr => ∃ k : Nat, k ≤ p.bodies.length ∧ i = .int .i64 k ∧ Hid (longAt 0 p.bodies = longAt k (p.bodies.drop k)) ∧ Below W.heap.size W wr) (fun i _ => p.bodies.length - (intOf i).toNat)
    case atStart => exact ⟨0, Nat.zero_le _, rfl, rfl, Below.refl _ _⟩
    case round =>
      obtain ⟨k, hk, rfl, hinv, hnx⟩ := hrel
      have hwr := hnx.size
      have hcw : ∀ o, wr.cell? ⟨w.heap.size + 1, o, none⟩ = #[Value.int .i64 0, .int .i64 0, .int .i64 0][o]? := fun o => by rw [hnx.cell (p := ⟨w.heap.size + 1, o, none⟩) (by show w.heap.size + 1 < _; omega)]; exact hc1 o
      have hfw : ∀ o, wr.frozen? ⟨w.heap.size + 1, o, none⟩ = false := fun o => by rw [hnx.frozen (p := ⟨w.heap.size + 1, o, none⟩) (by show w.heap.size + 1 < _; omega)]; exact hf1 o
      have hza : w.heap.size + 1 < wr.heap.size := by omega
      by_cases hlt : k < p.bodies.length
      · obtain ⟨b, off, rfl, _, hb, hcc⟩ := hc (by omega)
        obtain ⟨x, hx, hsx⟩ := hcc k hlt
        rw [Nat.mul_one] at hx
        have e0 : wr.cell? ⟨b, off + k, none⟩ = some x := ((HBW.out.trans (hnx.mono HBW.out.size)).cell (p := ⟨b, off + k, none⟩) hb).trans hx
        have Y := @long_hit p.bodies k hlt
        have M := @long_miss p.bodies k hlt
        obtain ⟨ax, cx, rfl, _⟩ := hsx
        obtain ⟨n, hn⟩ : ∃ n, n = (p.bodies[k]'hlt).length := ⟨_, rfl⟩
        rw [← hn] at e0 Y M
        have HY := hid Y
        have HM := hid M
        have HNX := hid hnx
        clear hc hcc hx hn Y M hnx
        by_cases h5 : 200 < n
        · have e : X = (3, (k : Int), 0) := by rw [HEX.out, hinv.out, HM.out h5]
          have HE := hid e
          clear e
          go_wp2
          exact bodyPost_ret (v := .agg #[.int .i64 3, .int .i64 k, .int .i64 0]) (by simp [results, Try.results35, go_sem, hcw, hza]) rfl ⟨by rw [HE.out], HBW.out.trans ((below_three (HNX.out.mono (B' := w.heap.size) (by omega)) (by omega) _ _ _).alloc (by simp [World.setCell]; omega) _)⟩
        · go_wp2
          go_roundw
          case rel => exact ⟨k + 1, by omega, by go_num, hinv.out.trans (HY.out (by omega)), HNX.out.alloc (by omega) _⟩
          case measure => simp [intOf]; omega
      · have e : X = (0, 0, 0) := by rw [HEX.out, hinv.out, long_end (by omega)]
        have HE := hid e
        have HNX := hid hnx
        clear e hc hnx
        go_wp2
        exact bodyPost_ret (v := .agg #[.int .i64 0, .int .i64 0, .int .i64 0]) (by simp [results, Try.results35, go_sem, hcw]) rfl ⟨by rw [HE.out], HBW.out.trans (below_three (HNX.out.mono (B' := w.heap.size) (by omega)) (by omega) _ _ _)⟩
end Go.Proofs.Ytogfkahcpjibjaa
