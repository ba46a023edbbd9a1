import Derived.Test.YtogfkahcpjibjaaAssert
namespace Go.Proofs.Ytogfkahcpjibjaa
open Go.RowKit
set_option linter.unusedSimpArgs false
set_option linter.unusedVariables false

def isHead (s : StepD) : Bool := decide (s.op = 15 ∨ s.op = 16)
theorem bs_loop (a size : Int) (w : World) : Calls Try.prog 47 #[.iface 127 (.agg #[.int .i64 a, .int .i64 size, .slice none 0 0])] w fun e w' => e = .returned (.tuple #[.int .i64 size, .bool true]) ∧ Below w.heap.size w w' := by
  go_enter Try.func47, Try.ntmps47
  go_wp2
  go_ret2
  exact ⟨rfl, (Below.refl _ _).alloc (Nat.le_refl _) _⟩
theorem wb_loop (a size : Int) (ao : Option Addr) (n c : Nat) (w : World) : Calls Try.prog 48 #[.iface 127 (.agg #[.int .i64 a, .int .i64 size, .slice none 0 0]), .slice ao n c] w fun e w' => (∃ T x, e = .returned (.iface T x)) ∧ Below w.heap.size w w' := by
  go_enter Try.func48, Try.ntmps48
  go_wp2
  go_ret
  exact ⟨⟨_, _, rfl⟩, (Below.refl _ _).alloc (Nat.le_refl _) _⟩
theorem bs_if (a size : Int) (w : World) : Calls Try.prog 47 #[.iface 128 (.agg #[.int .i64 a, .int .i64 size, .slice none 0 0])] w fun e w' => e = .returned (.tuple #[.int .i64 size, .bool true]) ∧ Below w.heap.size w w' := by
  go_enter Try.func47, Try.ntmps47
  go_wp2
  go_ret2
  exact ⟨rfl, (Below.refl _ _).alloc (Nat.le_refl _) _⟩
theorem wb_if (a size : Int) (ao : Option Addr) (n c : Nat) (w : World) : Calls Try.prog 48 #[.iface 128 (.agg #[.int .i64 a, .int .i64 size, .slice none 0 0]), .slice ao n c] w fun e w' => (∃ T x, e = .returned (.iface T x)) ∧ Below w.heap.size w w' := by
  go_enter Try.func48, Try.ntmps48
  go_wp2
  go_ret
  exact ⟨⟨_, _, rfl⟩, (Below.refl _ _).alloc (Nat.le_refl _) _⟩
theorem bs_no (T : TypeId) (x : Value) (w : World) (h1 : T ≠ 127) (h2 : T ≠ 128) : Calls Try.prog 47 #[.iface T x] w fun e w' => e = .returned (.tuple #[.int .i64 0, .bool false]) ∧ Below w.heap.size w w' := by
  go_enter Try.func47, Try.ntmps47
  go_wp2
  go_ret2
  exact ⟨rfl, Below.refl _ _⟩

theorem blockSize_any (s : StepD) (h1 : 1 ≤ s.op) (h2 : s.op ≤ 16) (w : World) : Calls Try.prog 47 #[.iface (deedT s) (deedX s)] w fun e w' => e = .returned (.tuple #[.int .i64 (if isHead s then s.size else 0), .bool (isHead s)]) ∧ Below w.heap.size w w' := by
  obtain ⟨op, a, b, n, size⟩ := s
  by_cases h11 : op = 1
  · subst h11; exact bs_no _ _ w (by simp [deedT]) (by simp [deedT])
  by_cases h12 : op = 2
  · subst h12; exact bs_no _ _ w (by simp [deedT]) (by simp [deedT])
  by_cases h13 : op = 3
  · subst h13; exact bs_no _ _ w (by simp [deedT]) (by simp [deedT])
  by_cases h14 : op = 4
  · subst h14; exact bs_no _ _ w (by simp [deedT]) (by simp [deedT])
  by_cases h15 : op = 5
  · subst h15; exact bs_no _ _ w (by simp [deedT]) (by simp [deedT])
  by_cases h16 : op = 6
  · subst h16; exact bs_no _ _ w (by simp [deedT]) (by simp [deedT])
  by_cases h17 : op = 7
  · subst h17; exact bs_no _ _ w (by simp [deedT]) (by simp [deedT])
  by_cases h18 : op = 8
  · subst h18; exact bs_no _ _ w (by simp [deedT]) (by simp [deedT])
  by_cases h19 : op = 9
  · subst h19; exact bs_no _ _ w (by simp [deedT]) (by simp [deedT])
  by_cases h20 : op = 10
  · subst h20; exact bs_no _ _ w (by simp [deedT]) (by simp [deedT])
  by_cases h21 : op = 11
  · subst h21; exact bs_no _ _ w (by simp [deedT]) (by simp [deedT])
  by_cases h22 : op = 12
  · subst h22; exact bs_no _ _ w (by simp [deedT]) (by simp [deedT])
  by_cases h23 : op = 13
  · subst h23; exact bs_no _ _ w (by simp [deedT]) (by simp [deedT])
  by_cases h24 : op = 14
  · subst h24; exact bs_no _ _ w (by simp [deedT]) (by simp [deedT])
  by_cases h25 : op = 15
  · subst h25; exact bs_loop a size w
  by_cases h26 : op = 16
  · subst h26; exact bs_if a size w
  exact absurd h2 (by simp at h1 h2 ⊢; omega)
theorem withBlock_any (s : StepD) (hh : isHead s = true) (ao : Option Addr) (n c : Nat) (w : World) : Calls Try.prog 48 #[.iface (deedT s) (deedX s), .slice ao n c] w fun e w' => (∃ T x, e = .returned (.iface T x)) ∧ Below w.heap.size w w' := by
  obtain ⟨op, a, b, m, size⟩ := s
  have h : op = 15 ∨ op = 16 := by simpa [isHead] using hh
  rcases h with h | h
  · subst h; exact wb_loop a size ao n c w
  · subst h; exact wb_if a size ao n c w

/-! ### The blocks, plainly -/
def ins : Nat → Nat → Nat → List StepD → Int × Int
  | 0, _, _, _ => (0, 0)
  | _ + 1, _, _, [] => (0, 0)
  | n + 1, d, place, s :: r =>
    if isHead s then
      if (r.length : Int) < s.size then (5, (place : Int))
      else match d with
        | 0 => (6, (place : Int))
        | d' + 1 =>
          if (ins n d' (place + 1) (r.take s.size.toNat)).1 ≠ 0 then ins n d' (place + 1) (r.take s.size.toNat) else ins n (d' + 1) (place + 1 + s.size.toNat) (r.drop s.size.toNat)
    else ins n d (place + 1) r

theorem ins_eq : ∀ (n m d place : Nat) (l : List StepD), l.length ≤ n → l.length ≤ m → ins n d place l = ins m d place l
  | 0, m, d, place, l, h, h' => by
    have : l = [] := List.eq_nil_of_length_eq_zero (by omega)
    subst this; cases m <;> rfl
  | n + 1, 0, d, place, l, h, h' => by
    have : l = [] := List.eq_nil_of_length_eq_zero (by omega)
    subst this; rfl
  | n + 1, m + 1, d, place, [], h, h' => rfl
  | n + 1, m + 1, d, place, s :: r, h, h' => by
    have hr : r.length ≤ n := by simpa using h
    have hr' : r.length ≤ m := by simpa using h'
    have e1 : ∀ d place, ins n d place r = ins m d place r := fun d place => ins_eq n m d place r hr hr'
    have e2 : ∀ d place k, ins n d place (r.take k) = ins m d place (r.take k) := fun d place k => ins_eq n m d place _ (by simp; omega) (by simp; omega)
    have e3 : ∀ d place k, ins n d place (r.drop k) = ins m d place (r.drop k) := fun d place k => ins_eq n m d place _ (by simp; omega) (by simp; omega)
    simp only [ins, e1, e2, e3]

/-- The first block that cannot stand: its code and its step. -/
def insL (d place : Nat) (l : List StepD) : Int × Int := ins l.length d place l
theorem insL_nil (d place : Nat) : insL d place [] = (0, 0) := rfl
theorem insL_plain {d place : Nat} {s : StepD} {r : List StepD} (h : isHead s = false) : insL d place (s :: r) = insL d (place + 1) r := by
  simp [insL, ins, h]
theorem insL_long {d place : Nat} {s : StepD} {r : List StepD} (h : isHead s = true) (hs : (r.length : Int) < s.size) : insL d place (s :: r) = (5, (place : Int)) := by
  simp [insL, ins, h, hs]
theorem insL_deep {place : Nat} {s : StepD} {r : List StepD} (h : isHead s = true) (hs : ¬ (r.length : Int) < s.size) : insL 0 place (s :: r) = (6, (place : Int)) := by
  simp only [insL, List.length_cons, ins, h, if_true, if_neg hs]
theorem insL_in {d place : Nat} {s : StepD} {r : List StepD} (h : isHead s = true) (hs : ¬ (r.length : Int) < s.size) (hb : (insL d (place + 1) (r.take s.size.toNat)).1 ≠ 0) : insL (d + 1) place (s :: r) = insL d (place + 1) (r.take s.size.toNat) := by
  have e : ins r.length d (place + 1) (r.take s.size.toNat) = insL d (place + 1) (r.take s.size.toNat) := ins_eq _ _ _ _ _ (by simp; omega) (Nat.le_refl _)
  simp only [insL, List.length_cons, ins, h, if_true, if_neg hs]
  simp only [e, if_pos hb]
  rfl
theorem insL_past {d place : Nat} {s : StepD} {r : List StepD} (h : isHead s = true) (hs : ¬ (r.length : Int) < s.size) (hb : (insL d (place + 1) (r.take s.size.toNat)).1 = 0) : insL (d + 1) place (s :: r) = insL (d + 1) (place + 1 + s.size.toNat) (r.drop s.size.toNat) := by
  have e : ins r.length d (place + 1) (r.take s.size.toNat) = insL d (place + 1) (r.take s.size.toNat) := ins_eq _ _ _ _ _ (by simp; omega) (Nat.le_refl _)
  have e' : ins r.length (d + 1) (place + 1 + s.size.toNat) (r.drop s.size.toNat) = insL (d + 1) (place + 1 + s.size.toNat) (r.drop s.size.toNat) := ins_eq _ _ _ _ _ (by simp) (Nat.le_refl _)
  have hb' : ¬ (insL d (place + 1) (r.take s.size.toNat)).1 ≠ 0 := by simpa using hb
  rw [show insL (d + 1) place (s :: r) = ins (r.length + 1) (d + 1) place (s :: r) from rfl]
  simp only [ins, h, if_true, if_neg hs, e, e', if_neg hb']
end Go.Proofs.Ytogfkahcpjibjaa
