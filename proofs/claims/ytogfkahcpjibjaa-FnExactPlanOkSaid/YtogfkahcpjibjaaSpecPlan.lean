import Derived.Test.YtogfkahcpjibjaaRp
import Derived.Test.YtogfkahcpjibjaaInside
import Derived.Test.YtogfkahcpjibjaaShapeD
namespace Go.Proofs.Ytogfkahcpjibjaa
open Go.RowKit

set_option maxHeartbeats 8000000 in
set_option maxRecDepth 10000 in
/-- spec.PlanOk. -/
theorem specPlanOk_any (u : Value) (p : PlanD) (w : World) {lo : Nat} (hp : PlanV lo w u p) (hlen : p.bodies.length ≤ 1048576) (hlb : ∀ b ∈ p.bodies, b.length ≤ 1048576) (hlr : p.rooms.length ≤ 1048576) :
    Calls Try.prog 6 #[u] w fun e w' => e = .returned (.agg #[.int .i64 (faultD p).1, .int .i64 (faultD p).2.1, .int .i64 (faultD p).2.2]) ∧ Below w.heap.size w w' := by
  obtain ⟨u0, u1, rfl, hB, hI⟩ := hp
  have HB := hid hB
  have HI := hid hI
  obtain ⟨a0, c0, rfl, hc⟩ := hB
  obtain ⟨a1, c1, rfl, hr⟩ := hI
  obtain ⟨X, hX⟩ : ∃ X, X = faultD p := ⟨_, rfl⟩
  rw [← hX]
  obtain ⟨W, hW⟩ : ∃ W, W = (w.alloc (.cells #[.slice a0 p.bodies.length c0, .slice a1 p.rooms.length c1, .int .i64 p.slice] 32)).alloc (.cells #[.int .i64 0, .int .i64 0, .int .i64 0] 28) := ⟨_, rfl⟩
  have hbW : Below w.heap.size w W := by rw [hW]; exact ((Below.refl _ _).alloc (Nat.le_refl _) _).alloc (by simp) _
  have hsW : W.heap.size = w.heap.size + 1 + 1 := by rw [hW]; simp
  have hc0 : ∀ o, W.cell? ⟨w.heap.size, o, none⟩ = #[Value.slice a0 p.bodies.length c0, .slice a1 p.rooms.length c1, .int .i64 p.slice][o]? := by intro o; rw [hW]; simp [go_sem]
  have hc1 : ∀ o, W.cell? ⟨w.heap.size + 1, o, none⟩ = #[Value.int .i64 0, .int .i64 0, .int .i64 0][o]? := by intro o; rw [hW]; simp [go_sem]
  have hf1 : ∀ o, W.frozen? ⟨w.heap.size + 1, o, none⟩ = false := by intro o; rw [hW]; simp [go_sem]
  have HX := hid hX
  have HBW := hid hbW
  have HW := hid hW
  have HLB := hid hlb
  clear hX hbW hlb
  by_cases h1 : p.bodies.length = 0
  · have e : X = (1, 0, 0) := by rw [HX.out]; simp [faultD, boundsD, h1]
    have h1' : (((p.bodies.length : Nat) : Int) == 0) = true := by simp [h1]
    have HE := hid e
    clear e hc hr hW h1
    go_enter Try.func6, Try.ntmps6
    go_wp2
    exact bodyPost_ret (v := .agg #[.int .i64 1, .int .i64 0, .int .i64 0]) (by simp [results, Try.results6, go_sem]) rfl ⟨by rw [HE.out], ((Below.refl _ _).alloc (Nat.le_refl _) _).alloc (by simp) _⟩
  have h1' : (((p.bodies.length : Nat) : Int) == 0) = false := by simp [h1]
  by_cases h2 : 20 < p.bodies.length
  · have e : X = (1, 0, 0) := by rw [HX.out]; simp [faultD, boundsD, h2]
    have HE := hid e
    clear e hc hr hW h1
    go_enter Try.func6, Try.ntmps6
    go_wp2
    exact bodyPost_ret (v := .agg #[.int .i64 1, .int .i64 0, .int .i64 0]) (by simp [results, Try.results6, go_sem]) rfl ⟨by rw [HE.out], ((Below.refl _ _).alloc (Nat.le_refl _) _).alloc (by simp) _⟩
  have e12 : p.bodies.length ≠ 0 ∧ p.bodies.length ≤ 20 := by omega
  have H12 := hid e12
  have h2' : p.bodies.length ≤ 20 := by omega
  clear e12 h1 h2
  have e2 : (decide (p.rooms.length ≤ 10) && roomsB p.rooms && inB 1 p.slice 100) = false → X = (2, 0, 0) := fun h => by
    rw [HX.out]; exact fault_two H12.out h
  have H2 := hid e2
  clear e2
  by_cases h3 : 10 < p.rooms.length
  · have HE := hid (H2.out (by simp; omega))
    clear hc hr hW
    go_enter Try.func6, Try.ntmps6
    go_wp2
    exact bodyPost_ret (v := .agg #[.int .i64 2, .int .i64 0, .int .i64 0]) (by simp [results, Try.results6, go_sem]) rfl ⟨by rw [HE.out], ((Below.refl _ _).alloc (Nat.le_refl _) _).alloc (by simp) _⟩
  have h3' : p.rooms.length ≤ 10 := by omega
  clear h3
  go_enter Try.func6, Try.ntmps6
  go_wp2_with fail
  rw [← hW]
  clear hW
  refine (l1in_any _ _ _ _).mono ?_
  rintro e W ⟨rfl, rfl⟩
  cases h4 : inB 1 p.slice 100 with
  | false =>
    have HE := hid (H2.out (by rw [h4]; simp))
    clear hc hr
    go_wp2
    exact bodyPost_ret (v := .agg #[.int .i64 2, .int .i64 0, .int .i64 0]) (by simp [results, Try.results6, go_sem, hc1]) rfl ⟨by rw [HE.out], below_three HBW.out (by omega) _ _ _⟩
  | true =>
    go_wp2
    go_loop [40] (fun i => ∃ k : Nat, k ≤ p.rooms.length ∧ i = .int .i64 k ∧ Hid (roomsB p.rooms = roomsB (p.rooms.drop k))) (fun i => p.rooms.length - (intOf i).toNat)
    case atStart => exact ⟨0, Nat.zero_le _, rfl, rfl⟩
    case round =>
      obtain ⟨k, hk, rfl, hinv⟩ := hrel
      by_cases hlt : k < p.rooms.length
      · obtain ⟨b, off, rfl, _, hb, hcc⟩ := hr (by omega)
        have e0 := (rangeAt_below HBW.out (hcc k hlt) hb) 0 _ rfl
        have Y := @rooms_hit p.rooms k hlt
        have M := @rooms_miss p.rooms k hlt
        obtain ⟨s, hs⟩ : ∃ s, s = p.rooms[k]'hlt := ⟨_, rfl⟩
        rw [← hs, Nat.mul_one, Nat.add_zero] at e0
        rw [← hs] at Y M
        have HY := hid Y
        have HM := hid M
        clear hr hcc hs Y M hc
        go_wp2_with fail
        refine (l1in_any _ _ _ _).mono ?_
        rintro e W ⟨rfl, rfl⟩
        cases h5 : inB 0 s 10 with
        | false =>
          have HE := hid (H2.out (by rw [hinv.out, HM.out h5]; simp))
          go_wp2
          exact bodyPost_ret (v := .agg #[.int .i64 2, .int .i64 0, .int .i64 0]) (by simp [results, Try.results6, go_sem, hc1]) rfl ⟨by rw [HE.out], below_three HBW.out (by omega) _ _ _⟩
        | true =>
          go_wp2
          go_round
          case rel => exact ⟨k + 1, by omega, by go_num, hinv.out.trans (HY.out h5)⟩
          case measure => simp [intOf]; omega
      · have e5 : (decide (p.rooms.length ≤ 10) && roomsB p.rooms && inB 1 p.slice 100) = true := by rw [hinv.out, rooms_end (by omega), h4]; simp [h3']
        have H5 := hid e5
        clear e5 hr hinv
        go_wp2
        go_loopw [52] (fun i wr => ∃ k : Nat, k ≤ p.bodies.length ∧ i = .int .i64 k ∧ Hid (longAt 0 p.bodies = longAt k (p.bodies.drop k)) ∧ Below W.heap.size W wr) (fun i _ => p.bodies.length - (intOf i).toNat)
        case atStart => exact ⟨0, Nat.zero_le _, rfl, rfl, Below.refl _ _⟩
        case round =>
          obtain ⟨k, hk, rfl, hinv, hnx⟩ := hrel
          have hwr := hnx.size
          have hcA : ∀ o, wr.cell? ⟨w.heap.size, o, none⟩ = #[Value.slice a0 p.bodies.length c0, .slice a1 p.rooms.length c1, .int .i64 p.slice][o]? := fun o => by rw [hnx.cell (p := ⟨w.heap.size, o, none⟩) (by show w.heap.size < _; omega)]; exact hc0 o
          have hcB : ∀ o, wr.cell? ⟨w.heap.size + 1, o, none⟩ = #[Value.int .i64 0, .int .i64 0, .int .i64 0][o]? := fun o => by rw [hnx.cell (p := ⟨w.heap.size + 1, o, none⟩) (by show w.heap.size + 1 < _; omega)]; exact hc1 o
          have hfB : ∀ o, wr.frozen? ⟨w.heap.size + 1, o, none⟩ = false := fun o => by rw [hnx.frozen (p := ⟨w.heap.size + 1, o, none⟩) (by show w.heap.size + 1 < _; omega)]; exact hf1 o
          have hza : w.heap.size < wr.heap.size := by omega
          have hzb : w.heap.size + 1 < wr.heap.size := by omega
          by_cases hlt : k < p.bodies.length
          · obtain ⟨b, off, rfl, _, hb, hcc⟩ := hc (by omega)
            obtain ⟨x, hx, hsx⟩ := hcc k hlt
            rw [Nat.mul_one] at hx
            have e0 : wr.cell? ⟨b, off + k, none⟩ = some x := ((HBW.out.trans (hnx.mono HBW.out.size)).cell (p := ⟨b, off + k, none⟩) hb).trans hx
            have Y := @long_hit p.bodies k hlt
            have M := @long_miss p.bodies k hlt
            obtain ⟨ax, cx, rfl, _⟩ := hsx
            obtain ⟨n, hn⟩ : ∃ n, n = (p.bodies[k]'hlt).length := ⟨_, rfl⟩
            rw [← hn] at e0 Y M
            have HY := hid Y
            have HM := hid M
            have HNX := hid hnx
            clear hc hcc hx hn Y M hnx
            by_cases h6 : 200 < n
            · have HE := hid (HX.out.trans (fault_long H12.out H5.out (hinv.out.trans (HM.out h6))))
              go_wp2
              exact bodyPost_ret (v := .agg #[.int .i64 3, .int .i64 k, .int .i64 0]) (by simp [results, Try.results6, go_sem, hcB, hzb]) rfl ⟨by rw [HE.out], HBW.out.trans ((below_three (HNX.out.mono (B' := w.heap.size) (by omega)) (by omega) _ _ _).alloc (by simp [World.setCell]; omega) _)⟩
            · go_wp2
              go_roundw
              case rel => exact ⟨k + 1, by omega, by go_num, hinv.out.trans (HY.out (by omega)), HNX.out.alloc (by omega) _⟩
              case measure => simp [intOf]; omega
          · have HX2 := hid (HX.out.trans (fault_rest H12.out H5.out (hinv.out.trans (long_end (by omega)))))
            clear hinv hcB hfB hza hzb
            obtain ⟨wo, rfl⟩ : ∃ wo : World, wo = wr := ⟨_, rfl⟩
            have HNO := hid hnx
            clear hnx
            go_wp2
            clear hcA hwr
            go_loopw [67] (fun i wr => ∃ k : Nat, k ≤ p.bodies.length ∧ i = .int .i64 k ∧ Hid (stepAt p.bodies.length p.rooms.length 0 p.bodies = stepAt p.bodies.length p.rooms.length k (p.bodies.drop k)) ∧ Below W.heap.size W wr) (fun i _ => p.bodies.length - (intOf i).toNat)
            case atStart => exact ⟨0, Nat.zero_le _, rfl, rfl, HNO.out⟩
            case round =>
              obtain ⟨k, hk, rfl, hinv, hnx⟩ := hrel
              have hwr := hnx.size
              have hcA : ∀ o, wr.cell? ⟨w.heap.size, o, none⟩ = #[Value.slice a0 p.bodies.length c0, .slice a1 p.rooms.length c1, .int .i64 p.slice][o]? := fun o => by rw [hnx.cell (p := ⟨w.heap.size, o, none⟩) (by show w.heap.size < _; omega)]; exact hc0 o
              have hcB : ∀ o, wr.cell? ⟨w.heap.size + 1, o, none⟩ = #[Value.int .i64 0, .int .i64 0, .int .i64 0][o]? := fun o => by rw [hnx.cell (p := ⟨w.heap.size + 1, o, none⟩) (by show w.heap.size + 1 < _; omega)]; exact hc1 o
              have hfB : ∀ o, wr.frozen? ⟨w.heap.size + 1, o, none⟩ = false := fun o => by rw [hnx.frozen (p := ⟨w.heap.size + 1, o, none⟩) (by show w.heap.size + 1 < _; omega)]; exact hf1 o
              have hza : w.heap.size < wr.heap.size := by omega
              have hzb : w.heap.size + 1 < wr.heap.size := by omega
              by_cases hlt : k < p.bodies.length
              · obtain ⟨b, off, rfl, _, hb, hcc⟩ := hc (by omega)
                obtain ⟨x, hx, hsx⟩ := hcc k hlt
                rw [Nat.mul_one] at hx
                have hbo := HBW.out.trans (hnx.mono HBW.out.size)
                have e0 : wr.cell? ⟨b, off + k, none⟩ = some x := (hbo.cell (p := ⟨b, off + k, none⟩) hb).trans hx
                have Y := @step_hit p.bodies.length p.rooms.length k p.bodies hlt
                have M := fun i => @step_miss p.bodies.length p.rooms.length k i p.bodies hlt
                have hbl := HLB.out _ (List.getElem_mem hlt)
                obtain ⟨l, hl⟩ : ∃ l, l = p.bodies[k]'hlt := ⟨_, rfl⟩
                rw [← hl] at hsx Y M hbl
                obtain ⟨ax, cx, rfl, hcs⟩ := hsx
                have HY := hid Y
                have HM := hid M
                have HNX := hid hnx
                have HBO := hid hbo
                have HCS := hid hcs
                clear hc hcc hx hl Y M hnx hbo hcs
                obtain ⟨wq, rfl⟩ : ∃ wq : World, wq = wr := ⟨_, rfl⟩
                go_wp2
                obtain ⟨wp, hwp⟩ : ∃ wp, wp = wq.alloc (.cells #[.slice ax l.length cx] 53) := ⟨_, rfl⟩
                have hNP : Below W.heap.size W wp := by rw [hwp]; exact HNX.out.alloc (by omega) _
                have hBP : Below w.heap.size w wp := HBW.out.trans (hNP.mono HBW.out.size)
                rw [← hwp]
                have HNP := hid hNP
                have HBP := hid hBP
                clear hwp hNP hBP hcA hcB hfB hza hzb hwr
                go_loopw [75] (fun i wr => ∃ j : Nat, j ≤ l.length ∧ i = .int .i64 j ∧ Hid (badAt p.bodies.length p.rooms.length 0 l = badAt p.bodies.length p.rooms.length j (l.drop j)) ∧ Below wp.heap.size wp wr) (fun i _ => l.length - (intOf i).toNat)
                case atStart => exact ⟨0, Nat.zero_le _, rfl, rfl, Below.refl _ _⟩
                case round =>
                  obtain ⟨j, hj, rfl, hjnv, hjx⟩ := hrel
                  have hnx : Below W.heap.size W wr := HNP.out.trans (hjx.mono HNP.out.size)
                  have hwr := hnx.size
                  have hcA : ∀ o, wr.cell? ⟨w.heap.size, o, none⟩ = #[Value.slice (some ⟨b, off, none⟩) p.bodies.length c0, .slice a1 p.rooms.length c1, .int .i64 p.slice][o]? := fun o => by rw [hnx.cell (p := ⟨w.heap.size, o, none⟩) (by show w.heap.size < _; omega)]; exact hc0 o
                  have hcB : ∀ o, wr.cell? ⟨w.heap.size + 1, o, none⟩ = #[Value.int .i64 0, .int .i64 0, .int .i64 0][o]? := fun o => by rw [hnx.cell (p := ⟨w.heap.size + 1, o, none⟩) (by show w.heap.size + 1 < _; omega)]; exact hc1 o
                  have hfB : ∀ o, wr.frozen? ⟨w.heap.size + 1, o, none⟩ = false := fun o => by rw [hnx.frozen (p := ⟨w.heap.size + 1, o, none⟩) (by show w.heap.size + 1 < _; omega)]; exact hf1 o
                  have hza : w.heap.size < wr.heap.size := by omega
                  have hzb : w.heap.size + 1 < wr.heap.size := by omega
                  have hzp := HNP.out.size
                  have hzq := hjx.size
                  by_cases hjl : j < l.length
                  · obtain ⟨bs, os, rfl, _, hbs, hccs⟩ := HCS.out (by omega)
                    obtain ⟨d0, d1, d2, d3, d4⟩ := step_cells (rangeAt_below (HBP.out.trans (hjx.mono HBP.out.size)) (hccs j hjl) hbs)
                    have Y := @bad_hit p.bodies.length p.rooms.length j l hjl
                    have M := @bad_miss p.bodies.length p.rooms.length j l hjl
                    obtain ⟨s, hs⟩ : ∃ s, s = l[j]'hjl := ⟨_, rfl⟩
                    rw [← hs] at d0 d1 d2 d3 d4 Y M
                    have HYB := hid Y
                    have HMB := hid M
                    have HNX2 := hid hnx
                    have HJX := hid hjx
                    clear hs Y M hccs hnx hjx
                    go_wp2_with fail
                    refine (l1shape_any p.bodies.length _ _ _ p.rooms.length _ _ _ _ _ _ _ _ hlen hlr).mono ?_
                    rintro e w5 ⟨rfl, hb5⟩
                    have hz5 := hb5.size
                    simp only [World.size_alloc] at hz5
                    have hcB5 : ∀ o, w5.cell? ⟨w.heap.size + 1, o, none⟩ = #[Value.int .i64 0, .int .i64 0, .int .i64 0][o]? := fun o => by rw [hb5.cell (p := ⟨w.heap.size + 1, o, none⟩) (by simp; omega)]; simp [go_sem, hcB, hzb]
                    have hfB5 : ∀ o, w5.frozen? ⟨w.heap.size + 1, o, none⟩ = false := fun o => by rw [hb5.frozen (p := ⟨w.heap.size + 1, o, none⟩) (by simp; omega)]; simp [go_sem, hfB, hzb]
                    have HN5 : Hid (Below W.heap.size W w5) := (HNX2.out.alloc (by omega) _).trans (hb5.mono (by simp; omega))
                    have HJ5 : Hid (Below wp.heap.size wp w5) := (HJX.out.alloc (by omega) _).trans (hb5.mono (by simp; omega))
                    clear hb5 hcA hcB hfB
                    cases hsh : shapeB p.bodies.length p.rooms.length ⟨s.op, s.a, s.b, s.n, s.size⟩ with
                    | false =>
                      have HE := hid (HX2.out.trans (deep_step (hinv.out.trans (HM.out j (hjnv.out.trans (HMB.out hsh))))))
                      go_wp2
                      exact bodyPost_ret (v := .agg #[.int .i64 4, .int .i64 k, .int .i64 j]) (by simp [results, Try.results6, go_sem, hcB5]) rfl ⟨by rw [HE.out], HBW.out.trans (below_three (HN5.out.mono (B' := w.heap.size) (by omega)) (by omega) _ _ _)⟩
                    | true =>
                      go_wp2
                      go_roundw
                      case rel => exact ⟨j + 1, by omega, by go_num, hjnv.out.trans (HYB.out hsh), HJ5.out⟩
                      case measure => simp [intOf]; omega
                  · have hno : badAt p.bodies.length p.rooms.length 0 l = none := hjnv.out.trans (bad_end (by omega))
                    have HNB := hid hno
                    have HNX2 := hid hnx
                    clear hno hnx hjx hjnv
                    go_wp2
                    go_roundw
                    case rel => exact ⟨k + 1, by omega, by go_num, hinv.out.trans (HY.out HNB.out), HNX2.out⟩
                    case measure => simp [intOf]; omega
              · have hst : stepAt p.bodies.length p.rooms.length 0 p.bodies = none := hinv.out.trans (step_end (by omega))
                have HST := hid hst
                have hkn : ∀ b ∈ p.bodies, ∀ s ∈ b, isHead s = true → 0 ≤ s.size := fun b hb s hs => (shape_known (bad_none 0 b (step_none 0 p.bodies hst b hb) s hs)).2
                have HKN := hid hkn
                obtain ⟨wq, rfl⟩ : ∃ wq : World, wq = wr := ⟨_, rfl⟩
                have HNO := hid hnx
                clear hinv hcB hfB hza hzb hnx hst hkn
                go_wp2
                clear hcA hwr
                go_loopw [92] (fun i wr => ∃ k : Nat, k ≤ p.bodies.length ∧ i = .int .i64 k ∧ Hid (blockAt 0 p.bodies = blockAt k (p.bodies.drop k)) ∧ Below W.heap.size W wr) (fun i _ => p.bodies.length - (intOf i).toNat)
                case atStart => exact ⟨0, Nat.zero_le _, rfl, rfl, HNO.out⟩
                case round =>
                  obtain ⟨k, hk, rfl, hinv, hnx⟩ := hrel
                  have hwr := hnx.size
                  have hcA : ∀ o, wr.cell? ⟨w.heap.size, o, none⟩ = #[Value.slice a0 p.bodies.length c0, .slice a1 p.rooms.length c1, .int .i64 p.slice][o]? := fun o => by rw [hnx.cell (p := ⟨w.heap.size, o, none⟩) (by show w.heap.size < _; omega)]; exact hc0 o
                  have hcB : ∀ o, wr.cell? ⟨w.heap.size + 1, o, none⟩ = #[Value.int .i64 0, .int .i64 0, .int .i64 0][o]? := fun o => by rw [hnx.cell (p := ⟨w.heap.size + 1, o, none⟩) (by show w.heap.size + 1 < _; omega)]; exact hc1 o
                  have hfB : ∀ o, wr.frozen? ⟨w.heap.size + 1, o, none⟩ = false := fun o => by rw [hnx.frozen (p := ⟨w.heap.size + 1, o, none⟩) (by show w.heap.size + 1 < _; omega)]; exact hf1 o
                  have hza : w.heap.size < wr.heap.size := by omega
                  have hzb : w.heap.size + 1 < wr.heap.size := by omega
                  by_cases hlt : k < p.bodies.length
                  · obtain ⟨b, off, rfl, _, hb, hcc⟩ := hc (by omega)
                    obtain ⟨x, hx, hsx⟩ := hcc k hlt
                    rw [Nat.mul_one] at hx
                    have hbo := HBW.out.trans (hnx.mono HBW.out.size)
                    have e0 : wr.cell? ⟨b, off + k, none⟩ = some x := (hbo.cell (p := ⟨b, off + k, none⟩) hb).trans hx
                    have Y := @block_hit k p.bodies hlt
                    have M := @block_miss k p.bodies hlt
                    have hbl := HLB.out _ (List.getElem_mem hlt)
                    have hkn := HKN.out _ (List.getElem_mem hlt)
                    obtain ⟨l, hl⟩ : ∃ l, l = p.bodies[k]'hlt := ⟨_, rfl⟩
                    rw [← hl] at hsx Y M hbl hkn
                    have hsl := (hsx.below hbo).below ((Below.refl _ wr).alloc (Nat.le_refl _) (.cells #[x] 53))
                    obtain ⟨ax, cx, rfl, _⟩ := hsx
                    have hcall := inside_any 10 _ l 0 l.length _ _ (by omega) hsl hbl hkn (by omega) (by omega)
                    rw [show seg l 0 l.length = l by simp [seg]] at hcall
                    obtain ⟨Z, hZ⟩ : ∃ Z, Z = insL 10 0 l := ⟨_, rfl⟩
                    rw [← hZ] at hcall Y M
                    have HY := hid Y
                    have HM := hid M
                    have HNX := hid hnx
                    have HC := hid hcall
                    clear hc hcc hx hl Y M hnx hbo hsl hcall hZ hkn
                    go_wp2_with fail
                    refine HC.out.mono ?_
                    rintro e w5 ⟨rfl, hb5⟩
                    have hz5 := hb5.size
                    simp only [World.size_alloc] at hz5
                    have hcB5 : ∀ o, w5.cell? ⟨w.heap.size + 1, o, none⟩ = #[Value.int .i64 0, .int .i64 0, .int .i64 0][o]? := fun o => by rw [hb5.cell (p := ⟨w.heap.size + 1, o, none⟩) (by simp; omega)]; simp [go_sem, hcB, hzb]
                    have hfB5 : ∀ o, w5.frozen? ⟨w.heap.size + 1, o, none⟩ = false := fun o => by rw [hb5.frozen (p := ⟨w.heap.size + 1, o, none⟩) (by simp; omega)]; simp [go_sem, hfB, hzb]
                    have HN5 : Hid (Below W.heap.size W w5) := (HNX.out.alloc (by omega) _).trans (hb5.mono (by simp; omega))
                    clear hb5 hcA hcB hfB
                    cases hz0 : (Z.1 == 0) with
                    | false =>
                      have hz1 : (Z.1 != 0) = true := by simp [bne, hz0]
                      have HE := hid (HX2.out.trans (deep_block HST.out (hinv.out.trans (HM.out (by simpa using hz0)))))
                      go_wp2
                      exact bodyPost_ret (v := .agg #[.int .i64 Z.1, .int .i64 k, .int .i64 Z.2]) (by simp [results, Try.results6, go_sem, hcB5]) rfl ⟨by rw [HE.out], HBW.out.trans (below_three (HN5.out.mono (B' := w.heap.size) (by omega)) (by omega) _ _ _)⟩
                    | true =>
                      have hz1 : (Z.1 != 0) = false := by simp [bne, hz0]
                      go_wp2
                      go_roundw
                      case rel => exact ⟨k + 1, by omega, by go_num, hinv.out.trans (HY.out (by simpa using hz0)), HN5.out⟩
                      case measure => simp [intOf]; omega
                  · have HE := hid (HX2.out.trans (deep_none HST.out (hinv.out.trans (block_end (by omega)))))
                    have HNX := hid hnx
                    clear hc hnx hcA
                    go_wp2
                    exact bodyPost_ret (v := .agg #[.int .i64 0, .int .i64 0, .int .i64 0]) (by simp [results, Try.results6, go_sem, hcB]) rfl ⟨by rw [HE.out], HBW.out.trans (below_three (HNX.out.mono (B' := w.heap.size) (by omega)) (by omega) _ _ _)⟩
end Go.Proofs.Ytogfkahcpjibjaa
