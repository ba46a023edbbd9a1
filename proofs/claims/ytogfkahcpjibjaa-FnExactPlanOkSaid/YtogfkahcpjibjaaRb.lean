import Derived.Test.YtogfkahcpjibjaaKnown
import Derived.Deep.DeepCutAuto
import Derived.Deep.DrawnRows
import Derived.Deep.RegionWith
namespace Go.Proofs.Ytogfkahcpjibjaa
open Go.RowKit
attribute [local go_sem ↓] Go.wp_at_zero Go.wp_at_succ
@[go_sem] theorem not_nil (W : World) (u : TypeId) (v : Value) : (binOp .eql 93 (.iface u v) .nilIface).run Try.prog W = .ok (.bool false) W := by kernel_rfl
theorem info_deed : (Try.prog.info? 93).map (fun i => (i.zero, i.size, i.bytes)) = some (some .nilIface, 1, 16) := by kernel_rfl
def nilCells (n : Nat) : Array Value := madeCells #[.nilIface] n
theorem make_deeds (n : Nat) (hn : n ≤ 1048576) (u : World) : (Instr.makeSlice 79 (.int .i64 0) (.int .i64 (n : Int))).run Try.prog u =
      .ok (.slice (some ⟨u.heap.size, 0, none⟩) 0 n) (u.alloc (.cells (nilCells n) 93)) := by
  obtain ⟨i0, hi, hz0, hz1, hz2⟩ := info_parts info_deed
  have h := run_make (P := Try.prog) u 79 93 i0 _ Try.underlying79 hi hz0 .i64 .i64 0 (n : Int) (by omega) (by omega) (by rw [hz2]; omega) (by omega)
  simpa [hz1, Value.cells, nilCells] using h
theorem owns_deeds (n : Nat) (hn : n ≤ 1048576) (u : World) : (u.alloc (.cells (nilCells n) 93)).ownsRow u.heap.size 93 1 (.slice (some ⟨u.heap.size, 0, none⟩) 0 n) 0 [] :=
  ⟨rfl, .inr ⟨u.heap.size, n, nilCells n, rfl, Nat.le_refl _, heap_alloc_new u _, Nat.zero_le _, by unfold maxLen; omega, by simp [nilCells, size_madeCells], by simp⟩⟩

def deedV (s : StepD) : Value := .iface (deedT s) (deedX s)
def deedCells (s : StepD) : List Value := [deedV s]
def Deeds (lo : Nat) (w : World) (v : Value) (l : List StepD) : Prop := SliceAt lo 1 (CellsOf deedCells) w v l

def DeedsC (lo : Nat) (w : World) (v : Value) (l : List StepD) : Prop := Deeds lo w v l ∧ ∀ ao n c, v = .slice ao n c → n ≤ c ∧ c ≤ 1048576
theorem DeedsC.below {lo : Nat} {w w' : World} {v : Value} {l : List StepD} (h : DeedsC lo w v l) (hb : Below w.heap.size w w') : DeedsC lo w' v l :=
  ⟨SliceAt.mono h.1 (Nat.le_refl _) hb.size fun _ _ _ _ hlt hr => rangeAt_below hb hr hlt, h.2⟩

/-- The body's first step that is not as it must be, or none. -/
def badAt (nb nr : Nat) : Nat → List StepD → Option Nat
  | _, [] => none
  | i, s :: r => if shapeB nb nr s then badAt nb nr (i + 1) r else some i

/-- The loop of readBody: k steps are read. -/
structure RbInv (W wr : World) (B nb nr : Nat) (l : List StepD) (k : Nat) : Prop where
  own : wr.ownsRow B 93 1 (.slice (some ⟨B, 0, none⟩) k l.length) k ((l.take k).map deedV)
  below : Below B W wr
  bad : badAt nb nr 0 l = badAt nb nr k (l.drop k)

theorem ownsRow_below {w w' : World} {base : Nat} {e : TypeId} {size : Nat} {v : Value} {n : Nat} {xs : List Value} (h : w.ownsRow base e size v n xs) (hb : Below w.heap.size w w') : w'.ownsRow base e size v n xs := by
  obtain ⟨h1, h2⟩ := h
  refine ⟨h1, ?_⟩
  rcases h2 with h2 | ⟨g, cap, cur, hv, hg, hh, r⟩
  · exact .inl h2
  · have hlt : g < w.heap.size := by
      rcases Nat.lt_or_ge g w.heap.size with h' | h'
      · exact h'
      · rw [Array.getElem?_eq_none h'] at hh; cases hh
    exact .inr ⟨g, cap, cur, hv, hg, by rw [hb.block g hlt]; exact hh, r⟩
theorem bad_hit {nb nr k : Nat} {l : List StepD} (hk : k < l.length) (h : shapeB nb nr l[k] = true) : badAt nb nr k (l.drop k) = badAt nb nr (k + 1) (l.drop (k + 1)) := by
  rw [List.drop_eq_getElem_cons hk]; simp [badAt, h]
theorem bad_miss {nb nr k : Nat} {l : List StepD} (hk : k < l.length) (h : shapeB nb nr l[k] = false) : badAt nb nr k (l.drop k) = some k := by
  rw [List.drop_eq_getElem_cons hk]; simp [badAt, h]
theorem bad_end {nb nr k : Nat} {l : List StepD} (hk : l.length ≤ k) : badAt nb nr k (l.drop k) = none := by
  rw [List.drop_eq_nil_of_le hk]; rfl

theorem deeds_of {w wr : World} {B k : Nat} {l : List StepD} (hB : w.heap.size ≤ B) (h : wr.ownsRow B 93 1 (.slice (some ⟨B, 0, none⟩) k l.length) k ((l.take k).map deedV)) (hk : k = l.length) (hl : l.length ≤ 1048576) :
    DeedsC w.heap.size wr (.slice (some ⟨B, 0, none⟩) k l.length) l := by
  subst hk
  refine ⟨⟨_, _, rfl, fun _ => ⟨B, 0, rfl, hB, ?_, fun i hi j v hv => ?_⟩⟩, fun ao n c h => by cases h; exact ⟨Nat.le_refl _, hl⟩⟩
  · obtain ⟨_, h2⟩ := h
    rcases h2 with ⟨h2, _⟩ | ⟨g, cap', cur, hv, _, hh, _⟩
    · cases h2
    · have hg : B = g := by simp at hv; exact hv.1
      rw [← hg] at hh
      exact (Array.getElem?_eq_some_iff.1 hh).1
  · match j, hv with
    | 0, hv =>
      have := h.cellAt i (by simpa using hi)
      simp [deedCells] at hv
      subst hv
      simpa [hi] using this

set_option maxHeartbeats 4000000 in
set_option maxRecDepth 10000 in
theorem readBody_any (v : Value) (l : List StepD) (a0 : Option Addr) (nb c0 : Nat) (a1 : Option Addr) (nr c1 : Nat) (sl : Int) (w : World) {lo : Nat} (hv : Steps lo w v l) (hl : l.length ≤ 1048576) :
    Calls Try.prog 36 #[.agg #[v], .agg #[.slice a0 nb c0, .slice a1 nr c1, .int .i64 sl]] w fun e w' => (∃ v' : Value, ∃ r : Int, e = .returned (.tuple #[v', .int .i64 r]) ∧
      (badAt nb nr 0 l = none → r = -1 ∧ DeedsC w.heap.size w' v' l) ∧ (∀ i, badAt nb nr 0 l = some i → r = i)) ∧ Below w.heap.size w w' := by
  obtain ⟨ao, cap, rfl, hc⟩ := hv
  have hmk := make_deeds l.length hl
  obtain ⟨W, hW⟩ : ∃ W, W = (w.alloc (.cells #[.slice ao l.length cap] 53)).alloc (.cells #[.slice a0 nb c0, .slice a1 nr c1, .int .i64 sl] 32) := ⟨_, rfl⟩
  have hbW : Below w.heap.size w W := by rw [hW]; exact ((Below.refl _ _).alloc (Nat.le_refl _) _).alloc (by simp) _
  have hsW : W.heap.size = w.heap.size + 1 + 1 := by rw [hW]; simp
  have hc0 : ∀ o, W.cell? ⟨w.heap.size, o, none⟩ = #[Value.slice ao l.length cap][o]? := by intro o; rw [hW]; simp [go_sem]
  have hc1 : ∀ o, W.cell? ⟨w.heap.size + 1, o, none⟩ = #[Value.slice a0 nb c0, .slice a1 nr c1, .int .i64 sl][o]? := by intro o; rw [hW]; simp [go_sem]
  have hst := owns_deeds l.length hl W
  go_enter Try.func36, Try.ntmps36
  go_wp2
  rw [← hW]
  have HW := hid hW
  have HBW := hid hbW
  have HST := hid hst
  clear hmk hW hbW hst
  go_loopw [6, 17] (fun d i wr => ∃ k : Nat, k ≤ l.length ∧ i = .int .i64 k ∧ d = .slice (some ⟨w.heap.size + 1 + 1, 0, none⟩) k l.length ∧ RbInv W wr (w.heap.size + 1 + 1) nb nr l k) (fun _ i _ => l.length - (intOf i).toNat)
  case atStart => exact ⟨0, Nat.zero_le _, rfl, rfl, by rw [← hsW]; exact HST.out, by rw [← hsW]; exact (Below.refl _ _).alloc (Nat.le_refl _) _, rfl⟩
  case round =>
    obtain ⟨k, hk, rfl, rfl, hinv⟩ := hrel
    have hwr : w.heap.size + 1 + 1 < wr.heap.size := by
      obtain ⟨_, h2⟩ := hinv.own
      rcases h2 with ⟨h2, _⟩ | ⟨g, cap', cur, hv, _, hh, _⟩
      · cases h2
      · have hg : w.heap.size + 1 + 1 = g := by simp at hv; exact hv.1
        rw [← hg] at hh
        exact (Array.getElem?_eq_some_iff.1 hh).1
    have hcw : ∀ b o, b < w.heap.size + 1 + 1 → wr.cell? ⟨b, o, none⟩ = W.cell? ⟨b, o, none⟩ := fun b o h => hinv.below.cell (p := ⟨b, o, none⟩) h
    have hwa : w.heap.size < wr.heap.size := by omega
    have hwb : w.heap.size + 1 < wr.heap.size := by omega
    have HINV := hid hinv
    clear hinv
    by_cases hlt : k < l.length
    case neg =>
      clear hc
      go_wp2
      go_ret2
      refine ⟨⟨_, _, rfl, fun _ => ⟨rfl, ?_⟩, fun i hi => ?_⟩, HBW.out.trans (HINV.out.below.mono (by omega))⟩
      · exact deeds_of (by omega) HINV.out.own (by omega) hl
      · rw [HINV.out.bad, bad_end (by omega)] at hi; cases hi
    · obtain ⟨b, off, rfl, _, hb, hcc⟩ := hc (by omega)
      obtain ⟨e0, e1, e2, e3, e4⟩ := step_cells (rangeAt_below (HBW.out.trans (HINV.out.below.mono (by omega))) (hcc k hlt) hb)
      obtain ⟨s, hs⟩ : ∃ s, s = l[k]'hlt := ⟨_, rfl⟩
      rw [← hs] at e0 e1 e2 e3 e4
      have HS := hid hs
      clear hc hcc hs
      by_cases hop : 1 ≤ s.op ∧ s.op ≤ 16
      case neg =>
        have hno : s.op < 1 ∨ 16 < s.op := by omega
        go_wp2_with fail
        refine (rd_no _ _ _ _ _ _ hno).mono ?_
        rintro e w2 ⟨rfl, hb2⟩
        have HB2 := hid hb2
        clear hb2
        go_wp2
        go_region
        all_goals
          go_wp2
          go_ret2
          refine ⟨⟨_, _, rfl, fun h => ?_, fun i hi => ?_⟩, HBW.out.trans ((HINV.out.below.mono (by omega)).trans ((((Below.refl _ _).alloc (Nat.le_refl _) _).trans (HB2.out.mono (by simp))).drew.mono (by omega)))⟩
          · rw [HINV.out.bad, bad_miss hlt (by rw [← HS.out]; exact shape_none nb nr s hop)] at h; cases h
          · rw [HINV.out.bad, bad_miss hlt (by rw [← HS.out]; exact shape_none nb nr s hop)] at hi; cases hi; rfl
      · obtain ⟨F, hd⟩ := deed_ok s hop.1 hop.2
        have HSF := hid (shape_fit nb nr s hop.1 hop.2)
        have HDV : Hid (deedV s = .iface (deedT s) (deedX s)) := rfl
        generalize deedT s = T at hd HDV
        generalize deedX s = x at hd HDV
        have HD := hid hd
        have hm := hd.meth
        have hcf := hd.call
        clear hd
        go_wp2_with fail
        refine (HD.out.read _).mono ?_
        rintro e w2 ⟨rfl, hb2⟩
        have hz2 := hb2.size
        simp only [World.size_alloc] at hz2
        have hcl := bcell hb2
        simp only [World.size_alloc] at hcl
        have hz2a : w.heap.size < w2.heap.size := by omega
        have hz2b : w.heap.size + 1 < w2.heap.size := by omega
        have hz2c : wr.heap.size < w2.heap.size := by omega
        have hz2d : wr.heap.size < wr.heap.size + 1 := by omega
        have hz2e : w.heap.size + 1 < wr.heap.size + 1 := by omega
        have HB2 := hid hb2
        clear hb2
        go_upto_region 6 with fail
        go_cut [37] (fun t wx => t = .bool (!shapeB nb nr s) ∧ Below w2.heap.size w2 wx)
        case first =>
          obtain ⟨r, hr⟩ : ∃ r, r = backD s := ⟨_, rfl⟩
          have hback := HD.out.back
          rw [← hr] at hback HSF
          have HBK := hid hback
          clear hback hr
          cases q0 : (r.op == s.op) with
          | false =>
            have HQ : Hid (sameB r s = false) := by show sameB r s = false; simp only [sameB, q0]; rfl
            first | (go_region_with (first | (go_at_call 46; refine (HD.out.fits nb a0 c0 a1 nr c1 sl _).mono ?_; rintro e w4 ⟨rfl, hb4⟩) | (refine (HBK.out _).mono ?_; rintro e w3 ⟨rfl, hb3⟩; have hc3 := bcelld hb3))) | fail
            all_goals
              go_wp2_with fail
              go_meet
              exact ⟨by rw [HSF.out, HQ.out]; rfl, ((Below.refl _ w2).drew).trans hb3⟩
          | true =>
          cases q1 : (r.a == s.a) with
          | false =>
            have HQ : Hid (sameB r s = false) := by show sameB r s = false; simp only [sameB, q0, q1]; rfl
            first | (go_region_with (first | (go_at_call 46; refine (HD.out.fits nb a0 c0 a1 nr c1 sl _).mono ?_; rintro e w4 ⟨rfl, hb4⟩) | (refine (HBK.out _).mono ?_; rintro e w3 ⟨rfl, hb3⟩; have hc3 := bcelld hb3))) | fail
            all_goals
              go_wp2_with fail
              go_meet
              exact ⟨by rw [HSF.out, HQ.out]; rfl, ((Below.refl _ w2).drew).trans hb3⟩
          | true =>
          cases q2 : (r.b == s.b) with
          | false =>
            have HQ : Hid (sameB r s = false) := by show sameB r s = false; simp only [sameB, q0, q1, q2]; rfl
            first | (go_region_with (first | (go_at_call 46; refine (HD.out.fits nb a0 c0 a1 nr c1 sl _).mono ?_; rintro e w4 ⟨rfl, hb4⟩) | (refine (HBK.out _).mono ?_; rintro e w3 ⟨rfl, hb3⟩; have hc3 := bcelld hb3))) | fail
            all_goals
              go_wp2_with fail
              go_meet
              exact ⟨by rw [HSF.out, HQ.out]; rfl, ((Below.refl _ w2).drew).trans hb3⟩
          | true =>
          cases q3 : (r.n == s.n) with
          | false =>
            have HQ : Hid (sameB r s = false) := by show sameB r s = false; simp only [sameB, q0, q1, q2, q3]; rfl
            first | (go_region_with (first | (go_at_call 46; refine (HD.out.fits nb a0 c0 a1 nr c1 sl _).mono ?_; rintro e w4 ⟨rfl, hb4⟩) | (refine (HBK.out _).mono ?_; rintro e w3 ⟨rfl, hb3⟩; have hc3 := bcelld hb3))) | fail
            all_goals
              go_wp2_with fail
              go_meet
              exact ⟨by rw [HSF.out, HQ.out]; rfl, ((Below.refl _ w2).drew).trans hb3⟩
          | true =>
          cases q4 : (r.size == s.size) with
          | false =>
            have HQ : Hid (sameB r s = false) := by show sameB r s = false; simp only [sameB, q0, q1, q2, q3, q4]; rfl
            first | (go_region_with (first | (go_at_call 46; refine (HD.out.fits nb a0 c0 a1 nr c1 sl _).mono ?_; rintro e w4 ⟨rfl, hb4⟩) | (refine (HBK.out _).mono ?_; rintro e w3 ⟨rfl, hb3⟩; have hc3 := bcelld hb3))) | fail
            all_goals
              go_wp2_with fail
              go_meet
              exact ⟨by rw [HSF.out, HQ.out]; rfl, ((Below.refl _ w2).drew).trans hb3⟩
          | true =>
          have HQ : Hid (sameB r s = true) := by show sameB r s = true; simp only [sameB, q0, q1, q2, q3, q4]; rfl
          cases hf : fitB nb nr s with
          | false =>
            have hz3 : ∀ w' : World, w2.heap.size ≤ w'.heap.size → w.heap.size + 1 < w'.heap.size := fun w' h => by omega
            first | (go_region_with (first | (go_at_call 46; refine (HD.out.fits nb a0 c0 a1 nr c1 sl _).mono ?_; rintro e w4 ⟨rfl, hb4⟩) | (refine (HBK.out _).mono ?_; rintro e w3 ⟨rfl, hb3⟩; have hc3 := bcelld hb3))) | fail
            all_goals
              go_wp2_with fail
              go_meet
              exact ⟨by rw [HSF.out, HQ.out, hf]; rfl, (((Below.refl _ w2).drew).trans hb3).trans (hb4.mono hb3.size)⟩
          | true =>
            have hz3 : ∀ w' : World, w2.heap.size ≤ w'.heap.size → w.heap.size + 1 < w'.heap.size := fun w' h => by omega
            first | (go_region_with (first | (go_at_call 46; refine (HD.out.fits nb a0 c0 a1 nr c1 sl _).mono ?_; rintro e w4 ⟨rfl, hb4⟩) | (refine (HBK.out _).mono ?_; rintro e w3 ⟨rfl, hb3⟩; have hc3 := bcelld hb3))) | fail
            all_goals
              go_wp2_with fail
              go_meet
              exact ⟨by rw [HSF.out, HQ.out, hf]; rfl, (((Below.refl _ w2).drew).trans hb3).trans (hb4.mono hb3.size)⟩
        case rest =>
          obtain ⟨rfl, hb5⟩ := hcut
          have hz5 := hb5.size
          have HB5 := hid hb5
          have hlw : Below wr.heap.size wr wc := ((Below.refl _ _).alloc (Nat.le_refl _) _).trans ((HB2.out.mono (by simp)).trans (hb5.mono (by omega)))
          have hown := ownsRow_below HINV.out.own hlw
          have HLW := hid hlw
          have HONE := hid HD.out.one
          clear hb5 hlw hm hcf hcl
          cases hsh : shapeB nb nr s with
          | false =>
            clear hown
            go_wp2
            go_ret2
            refine ⟨⟨_, _, rfl, fun h => ?_, fun i hi => ?_⟩, HBW.out.trans ((HINV.out.below.mono (by omega)).trans (HLW.out.mono (by omega)))⟩
            · rw [HINV.out.bad, bad_miss hlt (by rw [← HS.out]; exact hsh)] at h; cases h
            · rw [HINV.out.bad, bad_miss hlt (by rw [← HS.out]; exact hsh)] at hi; cases hi; rfl
          | true =>
            obtain ⟨i0, hi, hz0, hz1, hz2'⟩ := info_parts info_deed
            go_wp2_with (at_builtin; refine wpList_append_fits _ rfl _ _ 79 rfl (w.heap.size + 1 + 1) 93 i0 1 Try.underlying79 hi hz1 (w.heap.size + 1 + 1) k l.length _ rfl (hown.alloc _) ⟨wc.heap.size, 0, none⟩ 1 1 [.iface T x] rfl rfl (by intro j u hj; match j, hj with | 0, hj => simp at hj; subst hj; simp [Addr.add]) (by intro u hu; simp at hu; subst hu; exact HONE.out) (by omega) ?_; intro w6 hown6 hgr6)
            go_roundw
            case rel =>
              refine ⟨k + 1, by omega, by go_num, rfl, ?_, ?_, ?_⟩
              · have e : (l.take (k + 1)).map deedV = (l.take k).map deedV ++ [.iface T x] := by
                  rw [List.take_succ_eq_append_getElem hlt, List.map_append, ← HS.out]
                  simp [HDV.out]
                rw [e]; exact hown6
              · exact ((HINV.out.below.trans (HLW.out.mono (by omega))).alloc (by omega) _).grown hgr6 (by simp; omega) (fun k' h => by cases h; exact Nat.le_refl _)
              · rw [HINV.out.bad, bad_hit hlt (by rw [← HS.out]; exact hsh)]
            case measure => simp [intOf]; omega
end Go.Proofs.Ytogfkahcpjibjaa
