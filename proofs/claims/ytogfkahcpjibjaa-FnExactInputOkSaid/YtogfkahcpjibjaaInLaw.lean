import Derived.Test.YtogfkahcpjibjaaFrom
import Derived.Test.YtogfkahcpjibjaaInOk
import Derived.Deep.DeepCutAuto
import Derived.Deep.DrawnRows
namespace Go.Proofs.Ytogfkahcpjibjaa
open Go.RowKit
attribute [local go_sem ↓] Go.wp_at_zero Go.wp_at_succ

set_option maxHeartbeats 2000000 in
theorem inLaw (u v : Value) (p : PlanD) (i : InputD) (w : World) (hp : PlanV 0 w u p) (hi : InputV 0 w v i)
    (h1 : p.bodies.length ≤ 9223372036854775807) (h2 : ∀ b ∈ p.bodies, b.length ≤ 9223372036854775807) (h3 : p.rooms.length ≤ 9223372036854775807) (h4 : i.feed.length ≤ 9223372036854775807) :
    Calls Try.prog 4 #[u, v] w fun e w' => e = .returned (.bool true) ∧ Below w.heap.size w w' := by
  obtain ⟨u0, u1, rfl, hB, hI⟩ := id hp
  obtain ⟨v0, rfl, hE⟩ := id hi
  obtain ⟨W, hW⟩ : ∃ W, W = (w.alloc (.cells #[u0, u1, .int .i64 p.slice] 25)).alloc (.cells #[v0, .int .i64 i.ticks, .int .i64 i.til] 39) := ⟨_, rfl⟩
  have hbW : Below w.heap.size w W := by rw [hW]; exact ((Below.refl _ _).alloc (Nat.le_refl _) _).alloc (by simp) _
  have hPW := hp.below hbW
  have hIW := hi.below hbW
  have hsW : W.heap.size = w.heap.size + 1 + 1 := by rw [hW]; simp
  have hc0 : ∀ o, W.cell? ⟨w.heap.size, o, none⟩ = #[u0, u1, .int .i64 p.slice][o]? := by intro o; rw [hW]; simp [go_sem]
  have hc1 : ∀ o, W.cell? ⟨w.heap.size + 1, o, none⟩ = #[v0, .int .i64 i.ticks, .int .i64 i.til][o]? := by intro o; rw [hW]; simp [go_sem]
  obtain ⟨a0, n0, rfl, _⟩ := hB
  obtain ⟨a1, n1, rfl, _⟩ := hI
  obtain ⟨a2, n2, rfl, _⟩ := hE
  have HP : Hid (PlanV 0 W (.agg #[.slice a0 p.bodies.length n0, .slice a1 p.rooms.length n1, .int .i64 p.slice]) p) := hPW
  have HI : Hid (InputV 0 W (.agg #[.slice a2 i.feed.length n2, .int .i64 i.ticks, .int .i64 i.til]) i) := hIW
  have HBW := hid hbW
  have H2 := hid h2
  clear hp hi hPW hIW hbW h2
  go_enter Try.func4, Try.ntmps4
  go_wp2_with fail
  rw [← hW]
  have HW := hid hW
  clear hW
  refine (szPlan_any _ p _ _ HP.out h1 H2.out h3 (by omega) (by omega)).mono ?_
  rintro e wa ⟨r, rfl, hr, hsm, hba⟩
  have hca := bcell hba
  have hza := hba.size
  have HBA := hid hba
  have HSM := hid hsm
  clear hba hsm
  by_cases hr0 : 0 ≤ r
  case neg =>
    go_wp2
    go_ret
    exact ⟨rfl, HBW.out.trans (HBA.out.mono HBW.out.size)⟩
  go_wp2_with fail
  refine (szInput_any _ i _ _ (HI.out.below HBA.out) h4 hr0 hr).mono ?_
  rintro e wb ⟨r', rfl, hr', hsm', hbb⟩
  have HBB : Hid (Below W.heap.size W wb) := HBA.out.trans (hbb.mono hza)
  clear hbb hca hza
  have hcb := bcell HBB.out
  have hzb := HBB.out.size
  by_cases hr0' : 0 ≤ r'
  case neg =>
    go_wp2
    go_ret
    exact ⟨rfl, HBW.out.trans (HBB.out.mono HBW.out.size)⟩
  have hfl := hsm' hr0'
  have hSM : Hid (SmallP p) := ⟨(HSM.out hr0).1, (HSM.out hr0).2.1, (HSM.out hr0).2.2⟩
  have hrl := (HSM.out hr0).2.2
  clear hsm' HSM HBA
  obtain ⟨R, HR⟩ : ∃ R, Hid (R = inOkB p i) := ⟨_, rfl⟩
  go_upto_region 8 with fail
  go_cut [6] (fun t wx => t = .bool R ∧ Below W.heap.size W wx)
  case first =>
    have hbd : Below W.heap.size W wb.drew := HBB.out.drew
    go_region_with (first
      | (go_at_call 7; refine (toPlan_from HP.out hSM.out _ (by assumption)).mono ?_; rintro e w1 ⟨v1, rfl, hv1, hb1, hbW1⟩; have hcw1 := bcell hbW1)
      | (go_at_call 13; refine (toInput_from HI.out hfl _ (by assumption)).mono ?_; rintro e w2 ⟨v2, rfl, hv2, hb2, hbW2⟩; have hcw2 := bcell hbW2)
      | (go_at_call 12; refine (specInputOk_any _ _ p i _ (PlanV.below hv1 hb2) hv2 hfl hrl).mono ?_; rintro e w3 ⟨rfl, hb3⟩))
    all_goals
      go_wp2_with fail
      go_meet
      exact ⟨by rw [HR.out], hbW2.trans (hb3.mono hbW2.size)⟩
  case rest =>
    obtain ⟨rfl, hbc⟩ := hcut
    have hcc := bcell hbc
    have hzc := hbc.size
    clear hcb hzb HBB
    go_wp2_with fail
    refine (toPlan_from HP.out hSM.out _ hbc).mono ?_
    rintro e w1 ⟨v1, rfl, hv1, hb1, hbW1⟩
    have hcw1 := bcell hbW1
    have hz1 := hbW1.size
    have hz1a : w.heap.size < w1.heap.size := by omega
    have hz1b : w.heap.size + 1 < w1.heap.size := by omega
    clear hcc hzc hbc hb1
    obtain ⟨x0, x1, rfl, hx0, hx1⟩ := id hv1
    obtain ⟨b0, m0, rfl, _⟩ := hx0
    obtain ⟨b1, m1, rfl, _⟩ := hx1
    have HV1 : Hid (PlanV 0 w1 (.agg #[.slice b0 p.bodies.length m0, .slice b1 p.rooms.length m1, .int .i64 p.slice]) p) := hv1
    have HBW1 : Hid (Below W.heap.size W w1) := hbW1
    clear hv1 hbW1
    go_wp2_with fail
    have hbA : Below W.heap.size W (w1.alloc (.cells #[.slice b0 p.bodies.length m0, .slice b1 p.rooms.length m1, .int .i64 p.slice] 32)) := HBW1.out.alloc hz1 _
    refine (toInput_from HI.out hfl _ hbA).mono ?_
    rintro e w2 ⟨v2, rfl, hv2, hb2, hbW2⟩
    have hcw2 := bcell hb2
    have hz2 := hb2.size
    simp only [World.size_alloc] at hz2
    have hz2a : w.heap.size < w2.heap.size := by omega
    have hz2b : w.heap.size + 1 < w2.heap.size := by omega
    have hz2c : w1.heap.size < w2.heap.size := by omega
    have HV1' := HV1.out.below (((Below.refl _ w1).alloc (Nat.le_refl _) (.cells #[.slice b0 p.bodies.length m0, .slice b1 p.rooms.length m1, .int .i64 p.slice] 32)).trans (hb2.mono (by simp)))
    obtain ⟨y0, rfl, hy0⟩ := id hv2
    obtain ⟨b2, m2, rfl, _⟩ := hy0
    have hbB := (Below.refl _ w2).alloc (Nat.le_refl _) (.cells #[.slice b2 i.feed.length m2, .int .i64 i.ticks, .int .i64 i.til] 44)
    have HV : Hid (PlanV 0 (w2.alloc (.cells #[.slice b2 i.feed.length m2, .int .i64 i.ticks, .int .i64 i.til] 44)) (.agg #[.slice b0 p.bodies.length m0, .slice b1 p.rooms.length m1, .int .i64 p.slice]) p) := HV1'.below hbB
    have HV2 : Hid (InputV 0 (w2.alloc (.cells #[.slice b2 i.feed.length m2, .int .i64 i.ticks, .int .i64 i.til] 44)) (.agg #[.slice b2 i.feed.length m2, .int .i64 i.ticks, .int .i64 i.til]) i) := hv2.below hbB
    have HBW2 : Hid (Below W.heap.size W (w2.alloc (.cells #[.slice b2 i.feed.length m2, .int .i64 i.ticks, .int .i64 i.til] 44))) := hbW2.alloc (by omega) _
    clear hv2 hbW2 HV1' HV1 HBW1 hbA hb2 hbB
    go_wp2_with fail
    refine (implInputOk_any _ _ p i _ HV.out HV2.out hfl).mono ?_
    rintro e w3 ⟨rfl, hb3⟩
    rw [← HR.out]
    have hcw3 := bcell hb3
    have hz3 := hb3.size
    simp only [World.size_alloc] at hz3
    have hz3a : w.heap.size < w3.heap.size := by omega
    have hz3b : w.heap.size + 1 < w3.heap.size := by omega
    have hz3c : w1.heap.size < w3.heap.size := by omega
    have hz3d : w2.heap.size < w3.heap.size := by omega
    have HV3 := hid (HV.out.below hb3)
    have HI3 := hid (HV2.out.below hb3)
    have HBW3 : Hid (Below W.heap.size W w3) := HBW2.out.trans (hb3.mono (by simp; omega))
    clear hb3 HV HV2 HBW2
    go_upto_region 14 with fail
    go_cut [39] (fun t wx => t = .bool false ∧ Below w3.heap.size w3 wx)
    case first =>
      have hbd : Below W.heap.size W w3.drew := HBW3.out.drew
      have HV3d := hid (HV3.out.below ((Below.refl _ w3).drew))
      go_region_with (first
        | (go_at_call 7; refine (toPlan_from HP.out hSM.out _ (by assumption)).mono ?_; rintro e w4 ⟨v4, rfl, hv4, hb4, hbW4⟩; have hcw4 := bcelld hb4)
        | (go_at_call 10; refine (eqPlan_any _ _ p _ (HV3d.out.below hb4) hv4 hSM.out.len hSM.out.each hSM.out.rooms).mono ?_; rintro e w5 ⟨rfl, hb5⟩))
      all_goals
        go_wp2_with fail
        go_meet
        exact ⟨rfl, (((Below.refl _ w3).drew).trans hb4).trans (hb5.mono hb4.size)⟩
    case rest =>
      obtain ⟨rfl, hb6⟩ := hcut
      have hcw6 := bcell hb6
      have hz6 := hb6.size
      have hz6a : w.heap.size < wc.heap.size := by omega
      have hz6b : w.heap.size + 1 < wc.heap.size := by omega
      have hz6d : w2.heap.size < wc.heap.size := by omega
      have HI6 := hid (HI3.out.below hb6)
      have HBW6 : Hid (Below W.heap.size W wc) := HBW3.out.trans (hb6.mono (by omega))
      clear hb6 HV3 HI3 HBW3
      go_upto_region 16 with fail
      go_cut [44] (fun t wx => t = .bool false ∧ Below wc.heap.size wc wx)
      case first =>
        have hbd : Below W.heap.size W wc.drew := HBW6.out.drew
        have HI6d := hid (HI6.out.below ((Below.refl _ wc).drew))
        go_region_with (first
          | (go_at_call 13; refine (toInput_from HI.out hfl _ (by assumption)).mono ?_; rintro e w7 ⟨v7, rfl, hv7, hb7, hbW7⟩; have hcw7 := bcelld hb7)
          | (go_at_call 15; refine (eqInput_any _ _ i _ (HI6d.out.below hb7) hv7 hfl).mono ?_; rintro e w8 ⟨rfl, hb8⟩))
        all_goals
          go_wp2_with fail
          go_meet
          exact ⟨rfl, (((Below.refl _ wc).drew).trans hb7).trans (hb8.mono hb7.size)⟩
      case rest =>
        obtain ⟨rfl, hb9⟩ := hcut
        have HB9 := hid hb9
        clear hb9
        go_wp2
        go_ret
        exact ⟨rfl, HBW.out.trans ((HBW6.out.trans (HB9.out.mono (by omega))).mono HBW.out.size)⟩
end Go.Proofs.Ytogfkahcpjibjaa
