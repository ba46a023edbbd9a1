import Derived.Test.YtogfkahcpjibjaaNest1
namespace Go.Proofs.Ytogfkahcpjibjaa
open Go.RowKit

/-- The steps from place i to place t. -/
def seg (l : List StepD) (i t : Nat) : List StepD := (l.take t).drop i
theorem seg_length (l : List StepD) (i t : Nat) (ht : t ≤ l.length) : (seg l i t).length = t - i := by simp [seg]; omega
theorem seg_cons (l : List StepD) (i t : Nat) (hi : i < t) (ht : t ≤ l.length) : seg l i t = l[i]'(by omega) :: seg l (i + 1) t := by
  unfold seg
  rw [List.drop_eq_getElem_cons (by simp; omega)]
  simp
theorem seg_end (l : List StepD) (i t : Nat) (hi : t ≤ i) : seg l i t = [] := by
  unfold seg
  exact List.drop_eq_nil_of_le (by simp; omega)
theorem seg_take (l : List StepD) (i t k : Nat) (h : i + k ≤ t) : (seg l i t).take k = seg l i (i + k) := by
  unfold seg
  rw [List.take_drop, List.take_take, Nat.min_eq_left h]
theorem seg_drop (l : List StepD) (i t k : Nat) : (seg l i t).drop k = seg l (i + k) t := by
  unfold seg
  rw [List.drop_drop]

def InsideAt (d : Nat) : Prop := ∀ (v : Value) (l : List StepD) (i0 t : Nat) (w : World) (lo : Nat), d ≤ 10 → Steps lo w v l → l.length ≤ 1048576 → (∀ s ∈ l, isHead s = true → 0 ≤ s.size) → i0 ≤ t → t ≤ l.length →
    Calls Try.prog 20 #[.agg #[v], .int .i64 i0, .int .i64 t, .int .i64 (10 - (d : Int))] w fun e w' => e = .returned (.tuple #[.int .i64 (insL d i0 (seg l i0 t)).1, .int .i64 (insL d i0 (seg l i0 t)).2]) ∧ Below w.heap.size w w'

theorem ret_two {k : IntKind} {a b c d : Int} (h : a = c) (h' : b = d) : Ending.returned (.tuple #[.int k a, .int k b]) = .returned (.tuple #[.int k c, .int k d]) := by rw [h, h']

set_option maxHeartbeats 2000000 in
theorem inside_step (d : Nat) (ih : ∀ d', d = d' + 1 → InsideAt d') : InsideAt d := by
    intro v l i0 t w lo hd hv hlen hnn hit htl
    obtain ⟨ao, cap, rfl, hc⟩ := id hv
    have HV := hid hv
    obtain ⟨W, hW⟩ : ∃ W, W = w.alloc (.cells #[.slice ao l.length cap] 53) := ⟨_, rfl⟩
    have hbW : Below w.heap.size w W := by rw [hW]; exact (Below.refl _ _).alloc (Nat.le_refl _) _
    have hsW : W.heap.size = w.heap.size + 1 := by rw [hW]; simp
    have hc0 : ∀ o, W.cell? ⟨w.heap.size, o, none⟩ = #[Value.slice ao l.length cap][o]? := by intro o; rw [hW]; simp [go_sem]
    have hmem : ∀ i (h : i < l.length), isHead l[i] = true → 0 ≤ (l[i]).size := fun i h => hnn _ (List.getElem_mem h)
    obtain ⟨R, hR⟩ : ∃ R, R = insL d i0 (seg l i0 t) := ⟨_, rfl⟩
    rw [← hR]
    have HR := hid hR
    obtain ⟨D, hD⟩ : ∃ D : Int, D = 10 - (d : Int) := ⟨_, rfl⟩
    rw [← hD]
    have HD := hid hD
    have hD0 : 0 ≤ D := by omega
    have hD1 : D ≤ 10 := by omega
    clear hD
    have IH := hid ih
    have HNN := hid hnn
    have HM := hid hmem
    clear hR ih hnn hmem hv
    go_enter Try.func20, Try.ntmps20
    go_wp2
    rw [← hW]
    have HW := hid hW
    have HBW := hid hbW
    clear hW hbW
    go_loopw [10] (fun i wr => ∃ k : Nat, i0 ≤ k ∧ k ≤ t ∧ i = .int .i64 k ∧ Hid (R = insL d k (seg l k t)) ∧ Below W.heap.size W wr) (fun i _ => t - (intOf i).toNat)
    case atStart => exact ⟨i0, Nat.le_refl _, hit, rfl, HR.out, Below.refl _ _⟩
    case round =>
      obtain ⟨k, hk0, hk, rfl, hinv, hnx⟩ := hrel
      have hwr := hnx.size
      have hcw : ∀ o, wr.cell? ⟨w.heap.size, o, none⟩ = #[Value.slice ao l.length cap][o]? := fun o => by rw [hnx.cell (p := ⟨w.heap.size, o, none⟩) (by show w.heap.size < _; omega)]; exact hc0 o
      by_cases hlt : k < t
      case neg =>
        clear hc
        go_wp2
        go_ret2
        have e : R = (0, 0) := by rw [hinv.out, seg_end _ _ _ (by omega), insL_nil]
        exact ⟨by rw [e]; rfl, HBW.out.trans (hnx.mono HBW.out.size)⟩
      · obtain ⟨b, off, rfl, _, hb, hcc⟩ := hc (by omega)
        have hkl : k < l.length := by omega
        obtain ⟨e0, e1, e2, e3, e4⟩ := step_cells (rangeAt_below (HBW.out.trans (hnx.mono HBW.out.size)) (hcc k hkl) hb)
        have hseg := seg_cons l k t hlt htl
        have hms := HM.out k hkl
        obtain ⟨s, hs⟩ : ∃ s, s = l[k]'hkl := ⟨_, rfl⟩
        rw [← hs] at e0 e1 e2 e3 e4 hseg hms
        have hl1 : (seg l (k + 1) t).length = t - (k + 1) := seg_length _ _ _ htl
        have HSEG := hid hseg
        have HMS := hid hms
        have HL1 := hid hl1
        have HNX := hid hnx
        clear hc hcc hs hseg hms hl1 hnx
        have hza : w.heap.size < wr.heap.size := by omega
        cases hh : isHead s with
        | false =>
          have hbk : decide (s.op = 15 ∨ s.op = 16) = false := hh
          go_wp2_with fail
          refine (l1block_any _ _).mono ?_
          rintro e w2 ⟨rfl, rfl⟩
          rw [hbk]
          clear hbk
          go_wp2
          go_roundw
          case rel => exact ⟨k + 1, by omega, by omega, by go_num, by show R = _; rw [hinv.out, HSEG.out, insL_plain hh], HNX.out.alloc (by omega) _⟩
          case measure => simp [intOf]; omega
        | true =>
          have hbk : decide (s.op = 15 ∨ s.op = 16) = true := hh
          have hs0 := HMS.out hh
          obtain ⟨m, hm⟩ : ∃ m : Nat, s.size = m := ⟨s.size.toNat, by omega⟩
          rw [hm] at e4
          have HMS' : Hid (s.size = m) := hm
          have HMM : Hid (s.size.toNat = m) := by show _ = _; omega
          clear hm hs0
          go_wp2_with fail
          refine (l1block_any _ _).mono ?_
          rintro e w2 ⟨rfl, rfl⟩
          rw [hbk]
          clear hbk
          by_cases hsz : (t : Int) - k - 1 < m
          · go_wp2
            go_ret2
            have e : R = (5, (k : Int)) := by rw [hinv.out, HSEG.out, insL_long hh (by rw [HL1.out, HMS'.out]; omega)]
            exact ⟨by rw [e]; rfl, HBW.out.trans ((HNX.out.alloc (by omega) _).mono HBW.out.size)⟩
          have hkm : k + 1 + m ≤ t := by omega
          have HSZ : Hid (s.size ≤ ((seg l (k + 1) t).length : Int)) := by show s.size ≤ _; rw [HL1.out, HMS'.out]; omega
          have hd' : d = 0 ∨ ∃ d', d = d' + 1 := by cases d with | zero => exact .inl rfl | succ d' => exact .inr ⟨d', rfl⟩
          rcases hd' with rfl | ⟨d', rfl⟩
          · have hsz2 : (m : Int) ≤ (t : Int) - k - 1 := by omega
            have hDb : (D == 10) = true := by have := HD.out; simp; omega
            clear hsz
            go_wp2
            go_ret2
            have e : R = (6, (k : Int)) := by rw [hinv.out, HSEG.out, insL_deep hh (by have := HSZ.out; omega)]
            exact ⟨by rw [e]; rfl, HBW.out.trans ((HNX.out.alloc (by omega) _).mono HBW.out.size)⟩
          · have hsz2 : (m : Int) ≤ (t : Int) - k - 1 := by omega
            clear hsz
            have hba : Below w.heap.size w (wr.alloc (.cells #[.int .i64 s.op, .int .i64 s.a, .int .i64 s.b, .int .i64 s.n, .int .i64 m] 55)) := HBW.out.trans ((HNX.out.alloc (by omega) _).mono HBW.out.size)
            have hcall := IH.out d' rfl _ l (k + 1) (k + 1 + m) _ lo (by omega) (HV.out.below hba) hlen HNN.out (by omega) (by omega)
            obtain ⟨X, hX⟩ : ∃ X, X = insL d' (k + 1) (seg l (k + 1) (k + 1 + m)) := ⟨_, rfl⟩
            have hDb : (D == 10) = false := by have := HD.out; simp; omega
            have hDe : 10 - (d' : Int) = D + 1 := by have := HD.out; omega
            rw [hDe] at hcall
            clear hDe
            rw [← hX, show ((k + 1 + m : Nat) : Int) = (k : Int) + 1 + m by omega, show ((k + 1 : Nat) : Int) = (k : Int) + 1 by omega] at hcall
            have HX := hid hX
            have HC := hid hcall
            clear hX hcall hba
            go_wp2_with fail
            refine HC.out.mono ?_
            rintro e w3 ⟨rfl, hb3⟩
            have hz3 := hb3.size
            have hc3 := bcell hb3
            simp only [World.size_alloc] at hz3 hc3
            have hz3a : w.heap.size < wr.heap.size + 1 := by omega
            have HB3 := hid hb3
            clear hb3
            have E1 : seg l (k + 1) (k + 1 + m) = (seg l (k + 1) t).take s.size.toNat := by rw [HMM.out, seg_take _ _ _ _ (by omega)]
            have E2 : seg l (k + 1 + m) t = (seg l (k + 1) t).drop s.size.toNat := by rw [HMM.out, seg_drop]
            have HE1 := hid E1
            have HE2 := hid E2
            clear E1 E2
            have HNW : Hid (Below W.heap.size W w3) := (HNX.out.alloc (by omega) _).trans (HB3.out.mono (by simp; omega))
            cases hx0 : (X.1 == 0) with
            | false =>
              have hx1 : (X.1 != 0) = true := by simp [bne, hx0]
              go_wp2
              go_ret2
              have e : R = X := by rw [hinv.out, HSEG.out, HX.out, HE1.out, insL_in hh (by have := HSZ.out; omega) (by rw [← HE1.out, ← HX.out]; simpa using hx0)]
              exact ⟨by rw [e]; rfl, HBW.out.trans (HNW.out.mono HBW.out.size)⟩
            | true =>
              have hx1 : (X.1 != 0) = false := by simp [bne, hx0]
              go_wp2
              go_roundw
              case rel => exact ⟨k + 1 + m, by omega, by omega, by go_num, by show R = _; rw [hinv.out, HSEG.out, insL_past hh (by have := HSZ.out; omega) (by rw [← HE1.out, ← HX.out]; simpa using hx0), HE2.out, HMM.out], HNW.out⟩
              case measure => simp [intOf]; omega

theorem inside_any (d : Nat) : InsideAt d := by
  induction d with
  | zero => exact inside_step 0 (fun d' h => by omega)
  | succ d ih => exact inside_step (d + 1) (fun d' h => by cases h; exact ih)
end Go.Proofs.Ytogfkahcpjibjaa
