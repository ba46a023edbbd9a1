import Derived.Test.YtogfkahcpjibjaaRp
namespace Go.Proofs.Ytogfkahcpjibjaa
open Go.RowKit
attribute [local go_sem ↓] Go.wp_at_zero Go.wp_at_succ

theorem below_three_drew {B b : Nat} {a w : World} (h : Below B a w) (hb : B ≤ b) (x y z : Value) : Below B a (((w.setCell ⟨b, 0, none⟩ x).setCell ⟨b, 1, none⟩ y).setCell ⟨b, 2, none⟩ z).drew := (below_three h hb x y z).drew

set_option maxHeartbeats 8000000 in
set_option maxRecDepth 10000 in
/-- impl.readPlan. -/
theorem readPlan_any (u : Value) (p : PlanD) (w : World) {lo : Nat} (hp : PlanV lo w u p) (hlen : p.bodies.length ≤ 1048576) (hlb : ∀ b ∈ p.bodies, b.length ≤ 1048576) (hlr : p.rooms.length ≤ 1048576) :
    Calls Try.prog 23 #[u] w fun e w' => (∃ a n c, e = .returned (.tuple #[.slice a n c, .agg #[.int .i64 (faultD p).1, .int .i64 (faultD p).2.1, .int .i64 (faultD p).2.2]])) ∧ Below w.heap.size w w' := by
  have HP := hid hp
  obtain ⟨u0, u1, rfl, hB, hI⟩ := hp
  obtain ⟨a0, c0, rfl, hc⟩ := hB
  obtain ⟨a1, c1, rfl, _⟩ := hI
  obtain ⟨X, hX⟩ : ∃ X, X = faultD p := ⟨_, rfl⟩
  rw [← hX]
  obtain ⟨W, hW⟩ : ∃ W, W = (w.alloc (.cells #[.slice a0 p.bodies.length c0, .slice a1 p.rooms.length c1, .int .i64 p.slice] 32)).alloc (.cells #[.int .i64 0, .int .i64 0, .int .i64 0] 28) := ⟨_, rfl⟩
  have hbW : Below w.heap.size w W := by rw [hW]; exact ((Below.refl _ _).alloc (Nat.le_refl _) _).alloc (by simp) _
  have hsW : W.heap.size = w.heap.size + 1 + 1 := by rw [hW]; simp
  have hc0 : ∀ o, W.cell? ⟨w.heap.size, o, none⟩ = #[Value.slice a0 p.bodies.length c0, .slice a1 p.rooms.length c1, .int .i64 p.slice][o]? := by intro o; rw [hW]; simp [go_sem]
  have hc1 : ∀ o, W.cell? ⟨w.heap.size + 1, o, none⟩ = #[Value.int .i64 0, .int .i64 0, .int .i64 0][o]? := by intro o; rw [hW]; simp [go_sem]
  have hf1 : ∀ o, W.frozen? ⟨w.heap.size + 1, o, none⟩ = false := by intro o; rw [hW]; simp [go_sem]
  have HX := hid hX
  have HBW := hid hbW
  have HLB := hid hlb
  clear hX hbW hlb
  go_enter Try.func23, Try.ntmps23
  go_wp2_with fail
  rw [← hW]
  clear hW
  refine (boundsFault_any _ p _ (HP.out.below HBW.out) hlr).mono ?_
  rintro e w1 ⟨rfl, hb1⟩
  have hz1 := hb1.size
  have hcA1 : ∀ o, w1.cell? ⟨w.heap.size, o, none⟩ = #[Value.slice a0 p.bodies.length c0, .slice a1 p.rooms.length c1, .int .i64 p.slice][o]? := fun o => by rw [hb1.cell (p := ⟨w.heap.size, o, none⟩) (by show w.heap.size < _; omega)]; exact hc0 o
  have hcB1 : ∀ o, w1.cell? ⟨w.heap.size + 1, o, none⟩ = #[Value.int .i64 0, .int .i64 0, .int .i64 0][o]? := fun o => by rw [hb1.cell (p := ⟨w.heap.size + 1, o, none⟩) (by show w.heap.size + 1 < _; omega)]; exact hc1 o
  have hfB1 : ∀ o, w1.frozen? ⟨w.heap.size + 1, o, none⟩ = false := fun o => by rw [hb1.frozen (p := ⟨w.heap.size + 1, o, none⟩) (by show w.heap.size + 1 < _; omega)]; exact hf1 o
  have HN1 : Hid (Below W.heap.size W w1) := hb1
  have hza : w.heap.size < w1.heap.size := by omega
  have hzb : w.heap.size + 1 < w1.heap.size := by omega
  clear hb1
  have hF0 : (boundsD p).1 ≠ 0 → X = boundsD p := fun h => by rw [HX.out, faultD, if_pos h]
  have hF1 : (boundsD p).1 = 0 → X = deepD p := fun h => by rw [HX.out, faultD, if_neg (by simpa using h)]
  have HF0 := hid hF0
  have HF1 := hid hF1
  clear hF0 hF1
  generalize boundsD p = Z at *
  cases hz0 : (Z.1 == 0) with
  | false =>
    have hz : (Z.1 != 0) = true := by simp [bne, hz0]
    have HE := hid (HF0.out (by simpa using hz0))
    clear hc
    go_wp2
    go_region
    all_goals
      go_wp2
      exact bodyPost_ret (v := .tuple #[.slice none 0 0, .agg #[.int .i64 Z.1, .int .i64 Z.2.1, .int .i64 Z.2.2]]) (by simp [results, Try.results23, go_sem, hcB1, hzb]) rfl ⟨⟨_, _, _, by rw [HE.out]⟩, HBW.out.trans ((((HN1.out.mono (B' := w.heap.size) (by omega)).setCell (p := ⟨w.heap.size + 1, 0, none⟩) (by show w.heap.size ≤ w.heap.size + 1; omega) _).setCell (p := ⟨w.heap.size + 1, 1, none⟩) (by show w.heap.size ≤ w.heap.size + 1; omega) _).setCell (p := ⟨w.heap.size + 1, 2, none⟩) (by show w.heap.size ≤ w.heap.size + 1; omega) _ |>.alloc (by simp [World.setCell]; omega) _).drew⟩
  | true =>
    have hz : (Z.1 != 0) = false := by simp [bne, hz0]
    have HX2 := hid (HF1.out (by simpa using hz0))
    have hmk := make_flat p.bodies.length hlen
    obtain ⟨wF, hwF⟩ : ∃ wF, wF = w1.alloc (.cells #[.int .i64 Z.1, .int .i64 Z.2.1, .int .i64 Z.2.2] 28) := ⟨_, rfl⟩
    have hNF : Below W.heap.size W wF := by rw [hwF]; exact HN1.out.alloc (by omega) _
    have hsF : wF.heap.size = w1.heap.size + 1 := by rw [hwF]; simp
    go_wp2
    rw [← hwF]
    have HNF := hid hNF
    clear hwF hNF hmk hcA1 hcB1 hfB1
    go_loopw [28] (fun i wr => ∃ k : Nat, k ≤ p.bodies.length ∧ i = .int .i64 k ∧ Hid (stepAt p.bodies.length p.rooms.length 0 p.bodies = stepAt p.bodies.length p.rooms.length k (p.bodies.drop k)) ∧ Hid (∀ j (h : j < p.bodies.length), j < k → badAt p.bodies.length p.rooms.length 0 (p.bodies[j]) = none) ∧ Filled 1 (DeedAt (w1.heap.size + 1 + 1)) wF wr (w1.heap.size + 1) p.bodies k) (fun i _ => p.bodies.length - (intOf i).toNat)
    case atStart =>
      refine ⟨0, Nat.zero_le _, rfl, rfl, fun j _ h => absurd h (by omega), ?_⟩
      have := filled_start (E := DeedAt (wF.heap.size + 1)) (w0 := wF) (w := wF) (C := flatCells p.bodies.length) (t := 79) (l := p.bodies) (size := 1) (by rw [flat_size]; simp) (Below.refl _ _)
      rw [hsF] at this
      exact this
    case round =>
      obtain ⟨k, hk, rfl, hinv, hbad, hfl⟩ := hrel
      have hnx : Below W.heap.size W wr := HNF.out.trans (hfl.below.mono (by omega))
      have hwr := hnx.size
      have hcA : ∀ o, wr.cell? ⟨w.heap.size, o, none⟩ = #[Value.slice a0 p.bodies.length c0, .slice a1 p.rooms.length c1, .int .i64 p.slice][o]? := fun o => by rw [hnx.cell (p := ⟨w.heap.size, o, none⟩) (by show w.heap.size < _; omega)]; exact hc0 o
      have hcB : ∀ o, wr.cell? ⟨w.heap.size + 1, o, none⟩ = #[Value.int .i64 0, .int .i64 0, .int .i64 0][o]? := fun o => by rw [hnx.cell (p := ⟨w.heap.size + 1, o, none⟩) (by show w.heap.size + 1 < _; omega)]; exact hc1 o
      have hfB : ∀ o, wr.frozen? ⟨w.heap.size + 1, o, none⟩ = false := fun o => by rw [hnx.frozen (p := ⟨w.heap.size + 1, o, none⟩) (by show w.heap.size + 1 < _; omega)]; exact hf1 o
      have hz2 := hfl.lt
      have hza2 : w.heap.size < wr.heap.size := by omega
      have hzb2 : w.heap.size + 1 < wr.heap.size := by omega
      have HFL := hid hfl
      clear hfl
      by_cases hlt : k < p.bodies.length
      · obtain ⟨b, off, rfl, _, hb, hcc⟩ := hc (by omega)
        obtain ⟨x, hx, hsx⟩ := hcc k hlt
        rw [Nat.mul_one] at hx
        have hbo := HBW.out.trans (hnx.mono HBW.out.size)
        have e0 : wr.cell? ⟨b, off + k, none⟩ = some x := (hbo.cell (p := ⟨b, off + k, none⟩) hb).trans hx
        have Y := @step_hit p.bodies.length p.rooms.length k p.bodies hlt
        have M := fun i => @step_miss p.bodies.length p.rooms.length k i p.bodies hlt
        have hbl := HLB.out _ (List.getElem_mem hlt)
        obtain ⟨l, hl⟩ : ∃ l, l = p.bodies[k]'hlt := ⟨_, rfl⟩
        have HL := hid hl
        rw [← hl] at hsx Y M hbl
        have hsl := (hsx.below hbo).below ((Below.refl _ wr).alloc (Nat.le_refl _) (.cells #[x] 53))
        obtain ⟨ax, cx, rfl, _⟩ := hsx
        have HSL := hid hsl
        have HY := hid Y
        have HM := hid M
        have HNX := hid hnx
        clear hc hcc hx hl Y M hnx hbo hsl
        go_wp2_with fail
        refine (readBody_any _ l _ _ _ _ _ _ _ _ HSL.out hbl).mono ?_
        rintro e w5 ⟨⟨v5, r5, rfl, hok5, hno5⟩, hb5⟩
        have hz5 := hb5.size
        simp only [World.size_alloc] at hz5
        have hcB5 : ∀ o, w5.cell? ⟨w.heap.size + 1, o, none⟩ = #[Value.int .i64 0, .int .i64 0, .int .i64 0][o]? := fun o => by rw [hb5.cell (p := ⟨w.heap.size + 1, o, none⟩) (by simp; omega)]; simp [go_sem, hcB, hzb2]
        have hfB5 : ∀ o, w5.frozen? ⟨w.heap.size + 1, o, none⟩ = false := fun o => by rw [hb5.frozen (p := ⟨w.heap.size + 1, o, none⟩) (by simp; omega)]; simp [go_sem, hfB, hzb2]
        have hba : Below wr.heap.size wr w5 := ((Below.refl _ _).alloc (Nat.le_refl _) _).trans (hb5.mono (by simp))
        have HBA := hid hba
        have HN5 : Hid (Below W.heap.size W w5) := HNX.out.trans (hba.mono (by omega))
        have HOK5 := hid hok5
        have HNO5 := hid hno5
        clear hb5 hba hok5 hno5 hcA hcB hfB
        cases hbd : badAt p.bodies.length p.rooms.length 0 l with
        | some i =>
          obtain rfl := HNO5.out i hbd
          have HE := hid (HX2.out.trans (deep_step (hinv.out.trans (HM.out i hbd))))
          go_wp2
          exact bodyPost_ret (v := .tuple #[.slice none 0 0, .agg #[.int .i64 4, .int .i64 k, .int .i64 i]]) (by simp [results, Try.results23, go_sem, hcB5]) rfl ⟨⟨_, _, _, by rw [HE.out]⟩, HBW.out.trans (below_three (HN5.out.mono (B' := w.heap.size) (by omega)) (by omega) _ _ _)⟩
        | none =>
          obtain ⟨rfl, hd5⟩ := HOK5.out hbd
          have hth := there_below HBA.out (HFL.out.mid hlt) hz2
          obtain ⟨⟨y0, d0⟩, f0⟩ := there_at hth 0 (by omega)
          simp only [Nat.add_zero, Nat.mul_one] at d0 f0
          have HD5 := hid (hd5.low (lo' := wr.heap.size) (by simp))
          obtain ⟨⟨a5, c5, rfl, _⟩, _⟩ := hd5
          clear hth
          go_wp2
          go_roundw
          case rel =>
            refine ⟨k + 1, by omega, by go_num, hinv.out.trans (HY.out hbd), fun j h hj => ?_, ?_⟩
            · by_cases e : j = k
              · subst e; rw [← HL.out]; exact hbd
              · exact hbad.out j h (by omega)
            · exact filled_deed HFL.out hlt HBA.out _ (by rw [← HL.out]; exact HD5.out)
          case measure => simp [intOf]; omega
      · have HST := hid (hinv.out.trans (step_end (by omega)))
        have HALL : Hid (∀ b ∈ p.bodies, ∀ s ∈ b, (1 ≤ s.op ∧ s.op ≤ 16) ∧ (isHead s = true → 0 ≤ s.size)) := fun b hb s hs => shape_known (bad_none 0 b (step_none 0 p.bodies HST.out b hb) s hs)
        obtain ⟨wN, rfl⟩ : ∃ wN : World, wN = wr := ⟨_, rfl⟩
        have hmk := make_flat p.bodies.length hlen
        have HNN := hid hnx
        have hflat : ∀ j (h : j < p.bodies.length), DeedAt (w1.heap.size + 1 + 1) wN (w1.heap.size + 1) j p.bodies[j] := fun j h => by have := HFL.out.done j h (by omega); rwa [Nat.mul_one] at this
        have HFLAT := hid hflat
        clear hinv hbad hnx hflat hc
        go_wp2
        clear hmk hcA hcB hfB
        go_loopw [54] (fun i wr => ∃ k : Nat, k ≤ p.bodies.length ∧ i = .int .i64 k ∧ Hid (blockAt 0 p.bodies = blockAt k (p.bodies.drop k)) ∧ Filled 1 (fun _ _ _ _ => True) wN wr wN.heap.size p.bodies k) (fun i _ => p.bodies.length - (intOf i).toNat)
        case atStart => exact ⟨0, Nat.zero_le _, rfl, rfl, filled_start (by rw [flat_size]; simp) (Below.refl _ _)⟩
        case round =>
          obtain ⟨k, hk, rfl, hinv, hfl⟩ := hrel
          have hnx : Below W.heap.size W wr := HNN.out.trans (hfl.below.mono HNN.out.size)
          have hwn := HNN.out.size
          have hwr := hnx.size
          have hz3 := hfl.lt
          have hcB : ∀ o, wr.cell? ⟨w.heap.size + 1, o, none⟩ = #[Value.int .i64 0, .int .i64 0, .int .i64 0][o]? := fun o => by rw [hnx.cell (p := ⟨w.heap.size + 1, o, none⟩) (by show w.heap.size + 1 < _; omega)]; exact hc1 o
          have hfB : ∀ o, wr.frozen? ⟨w.heap.size + 1, o, none⟩ = false := fun o => by rw [hnx.frozen (p := ⟨w.heap.size + 1, o, none⟩) (by show w.heap.size + 1 < _; omega)]; exact hf1 o
          have hzb3 : w.heap.size + 1 < wr.heap.size := by omega
          have HFL3 := hid hfl
          have HNX := hid hnx
          clear hfl hnx
          by_cases hlt : k < p.bodies.length
          · obtain ⟨x, hx, hdx⟩ := HFLAT.out k hlt
            have e0 : wr.cell? ⟨w1.heap.size + 1, k, none⟩ = some x := (HFL3.out.below.cell (p := ⟨w1.heap.size + 1, k, none⟩) (by show w1.heap.size + 1 < _; omega)).trans hx
            have hdr := hdx.below HFL3.out.below
            have Y := @block_hit k p.bodies hlt
            have M := @block_miss k p.bodies hlt
            have hbl := HLB.out _ (List.getElem_mem hlt)
            have hkn := HALL.out _ (List.getElem_mem hlt)
            obtain ⟨l, hl⟩ : ∃ l, l = p.bodies[k]'hlt := ⟨_, rfl⟩
            rw [← hl] at hdr hdx Y M hbl hkn
            have hcall := nest_any 10 _ l 0 _ _ (by omega) hdr hbl (by omega) hkn
            obtain ⟨V, hV⟩ : ∃ V, V = insL 10 0 l := ⟨_, rfl⟩
            rw [← hV, show (10 : Int) - ((10 : Nat) : Int) = 0 from rfl, show ((0 : Nat) : Int) = 0 from rfl] at hcall
            rw [← hV] at Y M
            obtain ⟨⟨ax, cx, rfl, _⟩, _⟩ := hdx
            have HY := hid Y
            have HM := hid M
            have HC := hid hcall
            clear hx hl Y M hdr hcall hV hkn
            go_wp2_with fail
            refine HC.out.mono ?_
            rintro e w5 ⟨⟨x1, x2, x3, rfl⟩, hb5⟩
            have hz5 := hb5.size
            have hcB5 : ∀ o, w5.cell? ⟨w.heap.size + 1, o, none⟩ = #[Value.int .i64 0, .int .i64 0, .int .i64 0][o]? := fun o => by rw [hb5.cell (p := ⟨w.heap.size + 1, o, none⟩) (by show w.heap.size + 1 < _; omega)]; exact hcB o
            have hfB5 : ∀ o, w5.frozen? ⟨w.heap.size + 1, o, none⟩ = false := fun o => by rw [hb5.frozen (p := ⟨w.heap.size + 1, o, none⟩) (by show w.heap.size + 1 < _; omega)]; exact hfB o
            have hzb5 : w.heap.size + 1 < w5.heap.size := by omega
            have HBA := hid hb5
            have HN5 : Hid (Below W.heap.size W w5) := HNX.out.trans (hb5.mono (by omega))
            clear hb5 hcB hfB
            cases hv0 : (V.1 == 0) with
            | false =>
              have hv1 : (V.1 != 0) = true := by simp [bne, hv0]
              have HE := hid (HX2.out.trans (deep_block HST.out (hinv.out.trans (HM.out (by simpa using hv0)))))
              go_wp2
              go_region
              all_goals
                go_wp2
                exact bodyPost_ret (v := .tuple #[.slice none 0 0, .agg #[.int .i64 V.1, .int .i64 k, .int .i64 V.2]]) (by simp [results, Try.results23, go_sem, hcB5, hzb5]) rfl ⟨⟨_, _, _, by rw [HE.out]⟩, HBW.out.trans (((((HN5.out.mono (B' := w.heap.size) (by omega)).setCell (p := ⟨w.heap.size + 1, 0, none⟩) (by show w.heap.size ≤ w.heap.size + 1; omega) _).setCell (p := ⟨w.heap.size + 1, 1, none⟩) (by show w.heap.size ≤ w.heap.size + 1; omega) _).setCell (p := ⟨w.heap.size + 1, 2, none⟩) (by show w.heap.size ≤ w.heap.size + 1; omega) _ |>.alloc (by simp [World.setCell]; omega) _).drew)⟩
            | true =>
              have hv1 : (V.1 != 0) = false := by simp [bne, hv0]
              have hth := there_below HBA.out (HFL3.out.mid hlt) hz3
              obtain ⟨⟨y0, d0⟩, f0⟩ := there_at hth 0 (by omega)
              simp only [Nat.add_zero, Nat.mul_one] at d0 f0
              have hz6 : wN.heap.size < w5.heap.size := by omega
              have HG := hid (HFL3.out.grown HBA.out (fun _ _ h => h))
              clear hth
              go_wp2
              go_roundw
              case rel =>
                refine ⟨k + 1, by omega, by go_num, hinv.out.trans (HY.out (by simpa using hv0)), ?_⟩
                have h3 := HG.out.store [.slice x1 x2 x3] (fun _ _ _ _ => trivial) (fun _ => trivial)
                simp only [World.setCells, Nat.mul_one] at h3
                exact h3.grown ((Below.refl _ _).alloc (Nat.le_refl _) _) (fun _ _ h => h)
              case measure => simp [intOf]; omega
          · have HE := hid (HX2.out.trans (deep_none HST.out (hinv.out.trans (block_end (by omega)))))
            go_wp2
            exact bodyPost_ret (v := .tuple #[.slice (some ⟨wN.heap.size, 0, none⟩) p.bodies.length p.bodies.length, .agg #[.int .i64 0, .int .i64 0, .int .i64 0]]) (by simp [results, Try.results23, go_sem, hcB]) rfl ⟨⟨_, _, _, by rw [HE.out]⟩, HBW.out.trans (below_three (HNX.out.mono (B' := w.heap.size) (by omega)) (by omega) _ _ _)⟩
end Go.Proofs.Ytogfkahcpjibjaa
