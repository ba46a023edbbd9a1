import Derived.Test.YtogfkahcpjibjaaFrom
import Derived.Test.YtogfkahcpjibjaaPlanOk
import Derived.Test.YtogfkahcpjibjaaSpecPlan
import Derived.Deep.DeepCutAuto
import Derived.Deep.DrawnRows
namespace Go.Proofs.Ytogfkahcpjibjaa
open Go.RowKit
attribute [local go_sem ↓] Go.wp_at_zero Go.wp_at_succ

set_option maxHeartbeats 2000000 in
theorem planLaw (u : Value) (p : PlanD) (w : World) (hp : PlanV 0 w u p)
    (h1 : p.bodies.length ≤ 9223372036854775807) (h2 : ∀ b ∈ p.bodies, b.length ≤ 9223372036854775807) (h3 : p.rooms.length ≤ 9223372036854775807) :
    Calls Try.prog 3 #[u] w fun e w' => e = .returned (.bool true) ∧ Below w.heap.size w w' := by
  obtain ⟨u0, u1, rfl, hB, hI⟩ := id hp
  obtain ⟨W, hW⟩ : ∃ W, W = w.alloc (.cells #[u0, u1, .int .i64 p.slice] 25) := ⟨_, rfl⟩
  have hbW : Below w.heap.size w W := by rw [hW]; exact (Below.refl _ _).alloc (Nat.le_refl _) _
  have hPW := hp.below hbW
  have hsW : W.heap.size = w.heap.size + 1 := by rw [hW]; simp
  have hc0 : ∀ o, W.cell? ⟨w.heap.size, o, none⟩ = #[u0, u1, .int .i64 p.slice][o]? := by intro o; rw [hW]; simp [go_sem]
  obtain ⟨a0, n0, rfl, _⟩ := hB
  obtain ⟨a1, n1, rfl, _⟩ := hI
  have HP : Hid (PlanV 0 W (.agg #[.slice a0 p.bodies.length n0, .slice a1 p.rooms.length n1, .int .i64 p.slice]) p) := hPW
  have HBW := hid hbW
  have H2 := hid h2
  clear hp hPW hbW h2
  go_enter Try.func3, Try.ntmps3
  go_wp2_with fail
  rw [← hW]
  clear hW
  refine (szPlan_any _ p _ _ HP.out h1 H2.out h3 (by omega) (by omega)).mono ?_
  rintro e wa ⟨r, rfl, hr, hsm, hba⟩
  have hca := bcell hba
  have hza := hba.size
  have HBA := hid hba
  have HSM := hid hsm
  clear hba hsm
  by_cases hr0 : 0 ≤ r
  case neg =>
    go_wp2
    go_ret
    exact ⟨rfl, HBW.out.trans (HBA.out.mono HBW.out.size)⟩
  have hSM : Hid (SmallP p) := ⟨(HSM.out hr0).1, (HSM.out hr0).2.1, (HSM.out hr0).2.2⟩
  clear HSM
  go_wp2_with fail
  refine (toPlan_from HP.out hSM.out _ HBA.out).mono ?_
  rintro e w1 ⟨v1, rfl, hv1, hb1, hbW1⟩
  go_wp2_with fail
  refine (specPlanOk_any _ p _ hv1 hSM.out.len hSM.out.each hSM.out.rooms).mono ?_
  rintro e w2 ⟨rfl, hb2⟩
  have hbW2 : Below W.heap.size W w2 := hbW1.trans (hb2.mono hbW1.size)
  have hcw2 := bcell hbW2
  have hz2 := hbW2.size
  have hz2a : w.heap.size < w2.heap.size := by omega
  obtain ⟨Z, hZ⟩ : ∃ Z, Z = faultD p := ⟨_, rfl⟩
  rw [← hZ]
  have HZ := hid hZ
  have HW2 := hid hbW2
  clear hbW1 hb1 hb2 hv1 hca hza hZ hbW2
  go_wp2_with fail
  have hbA : Below W.heap.size W (w2.alloc (.cells #[.int .i64 Z.1, .int .i64 Z.2.1, .int .i64 Z.2.2] 28)) := HW2.out.alloc hz2 _
  refine (toPlan_from HP.out hSM.out _ hbA).mono ?_
  rintro e w3 ⟨v3, rfl, hv3, hb3, hbW3⟩
  have hz3 := hb3.size
  simp only [World.size_alloc] at hz3
  have hcw3 : ∀ b o, b < w2.heap.size + 1 → w3.cell? ⟨b, o, none⟩ = _ := fun b o h => hb3.cell (p := ⟨b, o, none⟩) (by simpa using h)
  have hz3a : w.heap.size < w3.heap.size := by omega
  have hz3b : w2.heap.size < w3.heap.size := by omega
  have hz3c : w2.heap.size < w2.heap.size + 1 := by omega
  have hz3d : w.heap.size < w2.heap.size + 1 := by omega
  obtain ⟨x0, x1, rfl, hx0, hx1⟩ := id hv3
  obtain ⟨b0, m0, rfl, _⟩ := hx0
  obtain ⟨b1, m1, rfl, _⟩ := hx1
  have hbB := (Below.refl _ w3).alloc (Nat.le_refl _) (.cells #[.slice b0 p.bodies.length m0, .slice b1 p.rooms.length m1, .int .i64 p.slice] 32)
  have HV : Hid (PlanV 0 (w3.alloc (.cells #[.slice b0 p.bodies.length m0, .slice b1 p.rooms.length m1, .int .i64 p.slice] 32)) (.agg #[.slice b0 p.bodies.length m0, .slice b1 p.rooms.length m1, .int .i64 p.slice]) p) := hv3.below hbB
  have HW3 : Hid (Below W.heap.size W (w3.alloc (.cells #[.slice b0 p.bodies.length m0, .slice b1 p.rooms.length m1, .int .i64 p.slice] 32))) := hbW3.alloc (by omega) _
  clear hv3 hb3 hbW3 hbA hbB
  go_wp2_with fail
  refine (implPlanOk_any _ p _ HV.out hSM.out.len hSM.out.each hSM.out.rooms).mono ?_
  rintro e w4 ⟨rfl, hb4⟩
  rw [← HZ.out]
  have hz4 := hb4.size
  simp only [World.size_alloc] at hz4
  have hcw4 : ∀ b o, b < w3.heap.size + 1 → w4.cell? ⟨b, o, none⟩ = _ := fun b o h => hb4.cell (p := ⟨b, o, none⟩) (by simpa using h)
  have hz4a : w.heap.size < w4.heap.size := by omega
  have hz4b : w2.heap.size < w4.heap.size := by omega
  have hz4c : w3.heap.size < w4.heap.size := by omega
  have hz4d : w.heap.size < w3.heap.size + 1 := by omega
  have hz4e : w2.heap.size < w3.heap.size + 1 := by omega
  have hz4f : w3.heap.size < w3.heap.size + 1 := by omega
  have HV4 := hid (HV.out.below hb4)
  have HW4 : Hid (Below W.heap.size W w4) := HW3.out.trans (hb4.mono (by simp; omega))
  clear hb4 HV HW3
  go_wp2_with fail
  refine (eqFault_any _ _ _ _).mono ?_
  rintro e w5 ⟨rfl, hb5⟩
  have hz5 := hb5.size
  simp only [World.size_alloc] at hz5
  have hbl : Below w4.heap.size w4 w5 := ((Below.refl _ w4).alloc (Nat.le_refl _) _).trans (hb5.mono (by simp))
  have hcw5 := bcell hbl
  have hz5a : w.heap.size < w5.heap.size := by omega
  have hz5c : w3.heap.size < w5.heap.size := by omega
  have HV5 := hid (HV4.out.below hbl)
  have HW5 : Hid (Below W.heap.size W w5) := HW4.out.trans (hbl.mono (by omega))
  clear hb5 hbl HV4 HW4
  go_upto_region 10 with fail
  go_cut [27] (fun t wx => t = .bool false ∧ Below w5.heap.size w5 wx)
  case first =>
    have hbd : Below W.heap.size W w5.drew := HW5.out.drew
    have HV5d := hid (HV5.out.below ((Below.refl _ w5).drew))
    go_region_with (first
      | (go_at_call 7; refine (toPlan_from HP.out hSM.out _ (by assumption)).mono ?_; rintro e w6 ⟨v6, rfl, hv6, hb6, hbW6⟩; have hcw6 := bcelld hb6)
      | (go_at_call 10; refine (eqPlan_any _ _ p _ (HV5d.out.below hb6) hv6 hSM.out.len hSM.out.each hSM.out.rooms).mono ?_; rintro e w7 ⟨rfl, hb7⟩))
    all_goals
      go_wp2_with fail
      go_meet
      exact ⟨rfl, (((Below.refl _ w5).drew).trans hb6).trans (hb7.mono hb6.size)⟩
  case rest =>
    obtain ⟨rfl, hb9⟩ := hcut
    have HB9 := hid hb9
    clear hb9
    go_wp2
    go_ret
    exact ⟨rfl, HBW.out.trans ((HW5.out.trans (HB9.out.mono (by omega))).mono HBW.out.size)⟩
end Go.Proofs.Ytogfkahcpjibjaa
