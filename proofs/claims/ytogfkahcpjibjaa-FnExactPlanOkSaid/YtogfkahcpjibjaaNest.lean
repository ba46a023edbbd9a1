import Derived.Test.YtogfkahcpjibjaaRb
import Derived.Test.YtogfkahcpjibjaaNest1
namespace Go.Proofs.Ytogfkahcpjibjaa
open Go.RowKit

def NestAt (d : Nat) : Prop := ∀ (v : Value) (l : List StepD) (place : Nat) (w : World) (lo : Nat), d ≤ 10 → DeedsC lo w v l → l.length ≤ 1048576 → place + l.length ≤ 4194304 → (∀ s ∈ l, (1 ≤ s.op ∧ s.op ≤ 16) ∧ (isHead s = true → 0 ≤ s.size)) →
    Calls Try.prog 37 #[v, .int .i64 place, .int .i64 (10 - (d : Int))] w fun e w' => (∃ a n c, e = .returned (.tuple #[.slice a n c, .agg #[.int .i64 (insL d place l).1, .int .i64 0, .int .i64 (insL d place l).2]])) ∧ Below w.heap.size w w'

theorem deeds_sub {lo : Nat} {w : World} {b off cap : Nat} {l : List StepD} (h : Deeds lo w (.slice (some ⟨b, off, none⟩) l.length cap) l) (k m : Nat) (hk : k + m ≤ l.length) (a : Option Addr) (c : Nat) (ha : 0 < m → a = some ⟨b, off + k, none⟩) :
    Deeds lo w (.slice a m c) ((l.drop k).take m) := by
  obtain ⟨ao, cap', hv, hr⟩ := h
  have hlen : ((l.drop k).take m).length = m := by simp; omega
  refine ⟨a, c, by rw [hlen], fun h0 => ?_⟩
  rw [hlen] at h0
  obtain ⟨b', off', ha', hlo, hlt, hc⟩ := hr (by omega)
  cases hv
  cases ha'
  refine ⟨b, off + k, ha h0, hlo, hlt, fun i hi => ?_⟩
  have hi' : i < m := by rw [hlen] at hi; exact hi
  have := hc (k + i) (by omega)
  rw [show off + (k + i) * 1 = off + k + i * 1 by omega] at this
  simpa using this

theorem own_ge {w : World} {base : Nat} {e : TypeId} {size : Nat} {v : Value} {n : Nat} {xs : List Value} (h : w.ownsRow base e size v n xs) {B : Nat} (hB : B ≤ base) : ∀ k, v.ownBlock = some k → B ≤ k := by
  intro k hk
  rcases h.2 with ⟨hv, _⟩ | ⟨g, cap, cur, hv, hg, _⟩
  · subst hv; cases hk
  · subst hv; cases hk; show B ≤ g; omega

set_option maxHeartbeats 4000000 in
set_option maxRecDepth 10000 in
theorem nest_step (d : Nat) (ih : ∀ d', d = d' + 1 → NestAt d') : NestAt d := by
    intro v l place w lo hd hv hlen hpl hnn
    obtain ⟨ao, cap, rfl, hc⟩ := id hv.1
    obtain ⟨hcap, hcm⟩ := hv.2 _ _ _ rfl
    have HV := hid hv
    obtain ⟨W, hW⟩ : ∃ W, W = w.alloc (.cells #[.int .i64 0, .int .i64 0, .int .i64 0] 28) := ⟨_, rfl⟩
    have hbW : Below w.heap.size w W := by rw [hW]; exact (Below.refl _ _).alloc (Nat.le_refl _) _
    have hsW : W.heap.size = w.heap.size + 1 := by rw [hW]; simp
    have hc0 : ∀ o, W.cell? ⟨w.heap.size, o, none⟩ = #[Value.int .i64 0, .int .i64 0, .int .i64 0][o]? := by intro o; rw [hW]; simp [go_sem]
    have hf0 : ∀ o, W.frozen? ⟨w.heap.size, o, none⟩ = false := by intro o; rw [hW]; simp [go_sem]
    have hmem : ∀ i (h : i < l.length), (1 ≤ (l[i]).op ∧ (l[i]).op ≤ 16) ∧ (isHead l[i] = true → 0 ≤ (l[i]).size) := fun i h => hnn _ (List.getElem_mem h)
    obtain ⟨R, hR⟩ : ∃ R, R = insL d place l := ⟨_, rfl⟩
    rw [← hR]
    have HR := hid hR
    obtain ⟨D, hD⟩ : ∃ D : Int, D = 10 - (d : Int) := ⟨_, rfl⟩
    rw [← hD]
    have HD := hid hD
    have hD0 : 0 ≤ D := by omega
    have hD1 : D ≤ 10 := by omega
    clear hD
    have IH := hid ih
    have HNN := hid hnn
    have HM := hid hmem
    clear hR ih hnn hmem hv
    go_enter Try.func37, Try.ntmps37
    go_wp2
    rw [← hW]
    have HW := hid hW
    have HBW := hid hbW
    clear hW hbW
    go_loopw [8, 9] (fun nv i wr => ∃ k : Nat, k ≤ l.length ∧ i = .int .i64 k ∧ Hid (R = insL d (place + k) (l.drop k)) ∧ (∃ n xs, n ≤ k ∧ wr.ownsRow (w.heap.size + 1) 93 1 nv n xs) ∧ Below W.heap.size W wr) (fun _ i _ => l.length - (intOf i).toNat)
    case atStart => exact ⟨0, Nat.zero_le _, rfl, HR.out, ⟨0, [], Nat.le_refl _, World.ownsRow_nil _ _ _ _⟩, Below.refl _ _⟩
    case round =>
      obtain ⟨k, hk, rfl, hinv, ⟨n, xs, hnk, hown⟩, hnx⟩ := hrel
      have hwr := hnx.size
      have hcw : ∀ o, wr.cell? ⟨w.heap.size, o, none⟩ = #[Value.int .i64 0, .int .i64 0, .int .i64 0][o]? := fun o => by rw [hnx.cell (p := ⟨w.heap.size, o, none⟩) (by show w.heap.size < _; omega)]; exact hc0 o
      have hfw : ∀ o, wr.frozen? ⟨w.heap.size, o, none⟩ = false := fun o => by rw [hnx.frozen (p := ⟨w.heap.size, o, none⟩) (by show w.heap.size < _; omega)]; exact hf0 o
      by_cases hlt : k < l.length
      case neg =>
        clear hc
        have hvf : ∃ a n c, u8 = Value.slice a n c := by
          rcases hown.2 with ⟨h, _⟩ | ⟨g, c, _, h, _⟩
          · exact ⟨_, _, _, h⟩
          · exact ⟨_, _, _, h⟩
        obtain ⟨x1, x2, x3, rfl⟩ := hvf
        have hz0 : w.heap.size < wr.heap.size := by omega
        go_wp2
        have e : R = (0, 0) := by rw [hinv.out, List.drop_eq_nil_of_le (by omega), insL_nil]
        exact bodyPost_ret (v := .tuple #[.slice x1 x2 x3, .agg #[.int .i64 0, .int .i64 0, .int .i64 0]]) (by simp [results, Try.results37, go_sem, hcw]) rfl ⟨⟨_, _, _, by rw [e]⟩,
          HBW.out.trans ((((hnx.mono HBW.out.size).setCell (p := ⟨w.heap.size, 0, none⟩) (Nat.le_refl _) _).setCell (p := ⟨w.heap.size, 1, none⟩) (Nat.le_refl _) _).setCell (p := ⟨w.heap.size, 2, none⟩) (Nat.le_refl _) _)⟩
      · obtain ⟨b, off, rfl, _, hb, hcc⟩ := hc (by omega)
        have e0 := (rangeAt_below (HBW.out.trans (hnx.mono HBW.out.size)) (hcc k hlt) hb) 0 _ rfl
        rw [Nat.mul_one, Nat.add_zero] at e0
        have hms := HM.out k hlt
        have hdr := List.drop_eq_getElem_cons hlt
        obtain ⟨s, hs⟩ : ∃ s, s = l[k]'hlt := ⟨_, rfl⟩
        rw [← hs] at e0 hms hdr
        have HDR := hid hdr
        have HMS := hid hms.2
        have HNX := hid hnx
        have e0' : wr.cell? ⟨b, off + k, none⟩ = some (.iface (deedT s) (deedX s)) := e0
        have HBS := hid (blockSize_any s hms.1.1 hms.1.2)
        have HWB := hid (withBlock_any s)
        have hbw : b < w.heap.size := hb
        clear hc hcc hs hdr hms e0 hnx
        generalize deedT s = T at *
        generalize deedX s = x at *
        have hz0 : w.heap.size < wr.heap.size := by omega
        obtain ⟨i0, hi, hzz0, hzz1, hzz2⟩ := info_parts info_deed
        cases hh : isHead s with
        | false =>
          go_wp2_with fail
          refine (HBS.out _).mono ?_
          rintro e w2 ⟨rfl, hb2⟩
          simp only [hh]
          have hown2 := ownsRow_below hown hb2
          have hz2 := hb2.size
          have e1 : w2.cell? ⟨b, off + k, none⟩ = some (.iface T x) := by rw [hb2.cell (p := ⟨b, off + k, none⟩) (by show b < _; omega)]; exact e0'
          have HB2 := hid hb2
          clear hb2 hown
          go_wp2_with (at_builtin; refine wpList_append_own _ rfl _ _ 79 rfl (w.heap.size + 1) 93 i0 .nilIface 1 16 Try.underlying79 hi hzz0 hzz1 hzz2 rfl (by decide) _ _ _ rfl (hown2.alloc _) ⟨w2.heap.size, 0, none⟩ 1 1 [.iface T x] rfl rfl (by intro j u hj; match j, hj with | 0, hj => simp at hj; subst hj; simp [Addr.add]) (by intro u hu; simp at hu; subst hu; rfl) (by unfold maxLen; omega) (by omega) (by simp; omega) ?_; intro v6 w6 hown6 hgr6 _)
          go_roundw
          case rel =>
            refine ⟨k + 1, by omega, by go_num, ?_, ⟨n + 1, _, by omega, hown6⟩, ?_⟩
            · show R = _
              rw [hinv.out, HDR.out, insL_plain hh]; rfl
            · exact ((HNX.out.trans (HB2.out.mono (by omega))).alloc (by omega) _).grown hgr6 (by simp; omega) (own_ge hown2 (by omega))
          case measure => simp [intOf]; omega
        | true =>
          have hs0 := HMS.out hh
          obtain ⟨m, hm⟩ : ∃ m : Nat, s.size = m := ⟨s.size.toNat, by omega⟩
          have HM1 : Hid (s.size = m) := hm
          have HMM : Hid (s.size.toNat = m) := by show _ = _; omega
          have hl1 : (l.drop (k + 1)).length = l.length - (k + 1) := by simp
          have HL1 := hid hl1
          clear hs0 hl1
          go_wp2_with fail
          refine (HBS.out _).mono ?_
          rintro e w2 ⟨rfl, hb2⟩
          simp only [hh, if_true, hm]
          clear hm
          have hown2 := ownsRow_below hown hb2
          have hz2 := hb2.size
          have e1 : w2.cell? ⟨b, off + k, none⟩ = some (.iface T x) := by rw [hb2.cell (p := ⟨b, off + k, none⟩) (by show b < _; omega)]; exact e0'
          have hcw2 : ∀ o, w2.cell? ⟨w.heap.size, o, none⟩ = #[Value.int .i64 0, .int .i64 0, .int .i64 0][o]? := fun o => by rw [hb2.cell (p := ⟨w.heap.size, o, none⟩) (by show w.heap.size < _; omega)]; exact hcw o
          have hfw2 : ∀ o, w2.frozen? ⟨w.heap.size, o, none⟩ = false := fun o => by rw [hb2.frozen (p := ⟨w.heap.size, o, none⟩) (by show w.heap.size < _; omega)]; exact hfw o
          have HB2 := hid hb2
          have HOWN2 := hid hown2
          have hz2a : w.heap.size < w2.heap.size := by omega
          clear hb2 hown hcw hfw hown2
          have HBB : Hid (Below W.heap.size W w2) := HNX.out.trans (HB2.out.mono (by omega))
          by_cases hsz : (l.length : Int) - (k + 1) < m
          · have e : R = (5, (place : Int) + k) := by rw [hinv.out, HDR.out, insL_long hh (by have := HL1.out; have := HM1.out; omega)]; simp
            have HE := hid e
            clear e
            go_wp2
            all_goals
              exact bodyPost_ret (v := .tuple #[.slice none 0 0, .agg #[.int .i64 5, .int .i64 0, .int .i64 ((place : Int) + k)]]) (by simp [results, Try.results37, go_sem, hcw2]) rfl ⟨⟨_, _, _, by rw [HE.out]⟩,
                HBW.out.trans ((((HBB.out.mono HBW.out.size).setCell (p := ⟨w.heap.size, 0, none⟩) (Nat.le_refl _) _).setCell (p := ⟨w.heap.size, 1, none⟩) (Nat.le_refl _) _).setCell (p := ⟨w.heap.size, 2, none⟩) (Nat.le_refl _) _)⟩
          have hd' : d = 0 ∨ ∃ d', d = d' + 1 := by cases d with | zero => exact .inl rfl | succ d' => exact .inr ⟨d', rfl⟩
          rcases hd' with rfl | ⟨d', rfl⟩
          · have e : R = (6, (place : Int) + k) := by rw [hinv.out, HDR.out, insL_deep hh (by have := HL1.out; have := HM1.out; omega)]; simp
            have HE := hid e
            have hDb : 10 ≤ D := by have := HD.out; omega
            clear e
            go_wp2
            all_goals
              exact bodyPost_ret (v := .tuple #[.slice none 0 0, .agg #[.int .i64 6, .int .i64 0, .int .i64 ((place : Int) + k)]]) (by simp [results, Try.results37, go_sem, hcw2]) rfl ⟨⟨_, _, _, by rw [HE.out]⟩,
                HBW.out.trans ((((HBB.out.mono HBW.out.size).setCell (p := ⟨w.heap.size, 0, none⟩) (Nat.le_refl _) _).setCell (p := ⟨w.heap.size, 1, none⟩) (Nat.le_refl _) _).setCell (p := ⟨w.heap.size, 2, none⟩) (Nat.le_refl _) _)⟩
          · have hDb : ¬ 10 ≤ D := by have := HD.out; omega
            have hmk : k + 1 + m ≤ l.length := by omega
            have hfull : Deeds lo w2 (.slice (some ⟨b, off, none⟩) l.length cap) l := (HV.out.below (HBW.out.trans (HBB.out.mono HBW.out.size))).1
            have HF := hid hfull
            clear hfull
            by_cases hck : cap = k + 1
            · subst hck
              have hsub : DeedsC lo w2 (.slice (some ⟨b, off, none⟩) m 0) ((l.drop (k + 1)).take m) := ⟨deeds_sub HF.out (k + 1) m (by omega) _ _ (fun h => by omega), fun ao n c h => by cases h; omega⟩
              have hcall := IH.out d' rfl _ _ (place + k + 1) w2 lo (by omega) hsub (by simp; omega) (by simp; omega) (fun s hs => HNN.out s (List.mem_of_mem_drop (List.mem_of_mem_take hs)))
              obtain ⟨X, hX⟩ : ∃ X, X = insL d' (place + k + 1) ((l.drop (k + 1)).take m) := ⟨_, rfl⟩
              have hDe : 10 - (d' : Int) = D + 1 := by have := HD.out; omega
              rw [← hX, hDe, show ((place + k + 1 : Nat) : Int) = (place : Int) + k + 1 by omega] at hcall
              have HX := hid hX
              have HC := hid hcall
              clear hX hcall hsub hDe
              go_wp2_with fail
              refine HC.out.mono ?_
              rintro e w3 ⟨⟨x1, x2, x3, rfl⟩, hb3⟩
              have hz3 := hb3.size
              have hcw3 : ∀ o, w3.cell? ⟨w.heap.size, o, none⟩ = #[Value.int .i64 0, .int .i64 0, .int .i64 0][o]? := fun o => by rw [hb3.cell (p := ⟨w.heap.size, o, none⟩) (by show w.heap.size < _; omega)]; exact hcw2 o
              have hfw3 : ∀ o, w3.frozen? ⟨w.heap.size, o, none⟩ = false := fun o => by rw [hb3.frozen (p := ⟨w.heap.size, o, none⟩) (by show w.heap.size < _; omega)]; exact hfw2 o
              have e3 : w3.cell? ⟨b, off + k, none⟩ = some (.iface T x) := by rw [hb3.cell (p := ⟨b, off + k, none⟩) (by show b < _; omega)]; exact e1
              have hz3a : w.heap.size < w3.heap.size := by omega
              have hz3b : b < w3.heap.size := by omega
              have hne : w.heap.size ≠ w3.heap.size := by omega
              have HB3 : Hid (Below W.heap.size W w3) := (HNX.out.trans (HB2.out.mono (by omega))).trans (hb3.mono (by omega))
              have HOWN3 := hid (ownsRow_below HOWN2.out hb3)
              clear hb3 hcw2 hfw2 e1
              cases hx0 : (X.1 == 0) with
              | false =>
                have hx1 : (X.1 != 0) = true := by simp [bne, hx0]
                have e : R = X := by rw [hinv.out, HDR.out, HX.out, ← HMM.out, insL_in hh (by have := HL1.out; have := HM1.out; omega) (by rw [HMM.out, show place + k + 1 = place + k + 1 from rfl, ← HX.out]; simpa using hx0)]
                have HE := hid e
                clear e
                go_wp2
                go_region
                all_goals
                  go_wp2
                  exact bodyPost_ret (v := .tuple #[.slice none 0 0, .agg #[.int .i64 X.1, .int .i64 0, .int .i64 X.2]]) (by simp [results, Try.results37, go_sem, hcw3, hz3a]) rfl ⟨⟨_, _, _, by rw [HE.out]⟩,
                    HBW.out.trans ((((((HB3.out.mono HBW.out.size).setCell (p := ⟨w.heap.size, 0, none⟩) (Nat.le_refl _) _).setCell (p := ⟨w.heap.size, 1, none⟩) (Nat.le_refl _) _).setCell (p := ⟨w.heap.size, 2, none⟩) (Nat.le_refl _) _).alloc (by simp [World.setCell]; omega) _).drew)⟩
              | true =>
                have hx1 : (X.1 != 0) = false := by simp [bne, hx0]
                have e : R = insL (d' + 1) (place + (k + m + 1)) (l.drop (k + m + 1)) := by
                  rw [hinv.out, HDR.out, insL_past hh (by have := HL1.out; have := HM1.out; omega) (by rw [HMM.out, ← HX.out]; simpa using hx0), HMM.out, show (l.drop (k + 1)).drop m = l.drop (k + m + 1) by rw [List.drop_drop]; congr 1; omega, show place + k + 1 + m = place + (k + m + 1) by omega]
                have HE := hid e
                clear e
                go_wp2_with fail
                refine (HWB.out hh _ _ _ _).mono ?_
                rintro e w4 ⟨⟨T4, x4, rfl⟩, hb4⟩
                have hz4 := hb4.size
                simp only [World.size_alloc] at hz4
                have hown4 := ownsRow_below (HOWN3.out.alloc _) hb4
                have HB4 : Hid (Below W.heap.size W w4) := (HB3.out.alloc (by omega) _).trans (hb4.mono (by simp; omega))
                clear hb4
                go_wp2_with (at_builtin; refine wpList_append_own _ rfl _ _ 79 rfl (w.heap.size + 1) 93 i0 .nilIface 1 16 Try.underlying79 hi hzz0 hzz1 hzz2 rfl (by decide) _ _ _ rfl (hown4.alloc _) ⟨w4.heap.size, 0, none⟩ 1 1 [.iface T4 x4] rfl rfl (by intro j u hj; match j, hj with | 0, hj => simp at hj; subst hj; simp [Addr.add]) (by intro u hu; simp at hu; subst hu; rfl) (by unfold maxLen; omega) (by omega) (by simp; omega) ?_; intro v6 w6 hown6 hgr6 _)
                go_roundw
                case rel =>
                  refine ⟨k + m + 1, by omega, by go_num, HE.out, ⟨n + 1, _, by omega, hown6⟩, ?_⟩
                  exact (HB4.out.alloc (by omega) _).grown hgr6 (by simp; omega) (own_ge hown4 (by omega))
                case measure => simp [intOf]; omega
            · have hsub : DeedsC lo w2 (.slice (some ⟨b, off + (k + 1), none⟩) m (cap - (k + 1))) ((l.drop (k + 1)).take m) := ⟨deeds_sub HF.out (k + 1) m (by omega) _ _ (fun _ => rfl), fun ao n c h => by cases h; omega⟩
              have hcall := IH.out d' rfl _ _ (place + k + 1) w2 lo (by omega) hsub (by simp; omega) (by simp; omega) (fun s hs => HNN.out s (List.mem_of_mem_drop (List.mem_of_mem_take hs)))
              obtain ⟨X, hX⟩ : ∃ X, X = insL d' (place + k + 1) ((l.drop (k + 1)).take m) := ⟨_, rfl⟩
              have hDe : 10 - (d' : Int) = D + 1 := by have := HD.out; omega
              rw [← hX, hDe, show ((place + k + 1 : Nat) : Int) = (place : Int) + k + 1 by omega] at hcall
              have HX := hid hX
              have HC := hid hcall
              clear hX hcall hsub hDe
              go_wp2_with fail
              refine HC.out.mono ?_
              rintro e w3 ⟨⟨x1, x2, x3, rfl⟩, hb3⟩
              have hz3 := hb3.size
              have hcw3 : ∀ o, w3.cell? ⟨w.heap.size, o, none⟩ = #[Value.int .i64 0, .int .i64 0, .int .i64 0][o]? := fun o => by rw [hb3.cell (p := ⟨w.heap.size, o, none⟩) (by show w.heap.size < _; omega)]; exact hcw2 o
              have hfw3 : ∀ o, w3.frozen? ⟨w.heap.size, o, none⟩ = false := fun o => by rw [hb3.frozen (p := ⟨w.heap.size, o, none⟩) (by show w.heap.size < _; omega)]; exact hfw2 o
              have e3 : w3.cell? ⟨b, off + k, none⟩ = some (.iface T x) := by rw [hb3.cell (p := ⟨b, off + k, none⟩) (by show b < _; omega)]; exact e1
              have hz3a : w.heap.size < w3.heap.size := by omega
              have hz3b : b < w3.heap.size := by omega
              have hne : w.heap.size ≠ w3.heap.size := by omega
              have HB3 : Hid (Below W.heap.size W w3) := (HNX.out.trans (HB2.out.mono (by omega))).trans (hb3.mono (by omega))
              have HOWN3 := hid (ownsRow_below HOWN2.out hb3)
              clear hb3 hcw2 hfw2 e1
              cases hx0 : (X.1 == 0) with
              | false =>
                have hx1 : (X.1 != 0) = true := by simp [bne, hx0]
                have e : R = X := by rw [hinv.out, HDR.out, HX.out, ← HMM.out, insL_in hh (by have := HL1.out; have := HM1.out; omega) (by rw [HMM.out, show place + k + 1 = place + k + 1 from rfl, ← HX.out]; simpa using hx0)]
                have HE := hid e
                clear e
                go_wp2
                go_region
                all_goals
                  go_wp2
                  exact bodyPost_ret (v := .tuple #[.slice none 0 0, .agg #[.int .i64 X.1, .int .i64 0, .int .i64 X.2]]) (by simp [results, Try.results37, go_sem, hcw3, hz3a]) rfl ⟨⟨_, _, _, by rw [HE.out]⟩,
                    HBW.out.trans ((((((HB3.out.mono HBW.out.size).setCell (p := ⟨w.heap.size, 0, none⟩) (Nat.le_refl _) _).setCell (p := ⟨w.heap.size, 1, none⟩) (Nat.le_refl _) _).setCell (p := ⟨w.heap.size, 2, none⟩) (Nat.le_refl _) _).alloc (by simp [World.setCell]; omega) _).drew)⟩
              | true =>
                have hx1 : (X.1 != 0) = false := by simp [bne, hx0]
                have e : R = insL (d' + 1) (place + (k + m + 1)) (l.drop (k + m + 1)) := by
                  rw [hinv.out, HDR.out, insL_past hh (by have := HL1.out; have := HM1.out; omega) (by rw [HMM.out, ← HX.out]; simpa using hx0), HMM.out, show (l.drop (k + 1)).drop m = l.drop (k + m + 1) by rw [List.drop_drop]; congr 1; omega, show place + k + 1 + m = place + (k + m + 1) by omega]
                have HE := hid e
                clear e
                go_wp2_with fail
                refine (HWB.out hh _ _ _ _).mono ?_
                rintro e w4 ⟨⟨T4, x4, rfl⟩, hb4⟩
                have hz4 := hb4.size
                simp only [World.size_alloc] at hz4
                have hown4 := ownsRow_below (HOWN3.out.alloc _) hb4
                have HB4 : Hid (Below W.heap.size W w4) := (HB3.out.alloc (by omega) _).trans (hb4.mono (by simp; omega))
                clear hb4
                go_wp2_with (at_builtin; refine wpList_append_own _ rfl _ _ 79 rfl (w.heap.size + 1) 93 i0 .nilIface 1 16 Try.underlying79 hi hzz0 hzz1 hzz2 rfl (by decide) _ _ _ rfl (hown4.alloc _) ⟨w4.heap.size, 0, none⟩ 1 1 [.iface T4 x4] rfl rfl (by intro j u hj; match j, hj with | 0, hj => simp at hj; subst hj; simp [Addr.add]) (by intro u hu; simp at hu; subst hu; rfl) (by unfold maxLen; omega) (by omega) (by simp; omega) ?_; intro v6 w6 hown6 hgr6 _)
                go_roundw
                case rel =>
                  refine ⟨k + m + 1, by omega, by go_num, HE.out, ⟨n + 1, _, by omega, hown6⟩, ?_⟩
                  exact (HB4.out.alloc (by omega) _).grown hgr6 (by simp; omega) (own_ge hown4 (by omega))
                case measure => simp [intOf]; omega

theorem nest_any (d : Nat) : NestAt d := by
  induction d with
  | zero => exact nest_step 0 (fun d' h => by omega)
  | succ d ih => exact nest_step (d + 1) (fun d' h => by cases h; exact ih)
end Go.Proofs.Ytogfkahcpjibjaa
