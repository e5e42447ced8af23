import Derived.Test.YtghkcfghkbihcaaGaq
namespace Go.Proofs.Ytghkcfghkbihcaa
open Go.RowKit

/-- the set of the first k notes' pitches, as the walk spells it -/
def pitTo (l : List (Int × Int)) : Nat → Int
  | 0 => 0
  | k + 1 => bits .or .u64 (pitTo l k) (IntKind.u64.wrap (2 ^ (nPi l k).toNat))
def pitI (l : List (Int × Int)) : Int := pitTo l l.length
/-- the pitches that the bells lack -/
def misI (bells : Int) (l : List (Int × Int)) : Int := bits .andNot .u64 (pitI l) bells
def canB (bells : Int) (l : List (Int × Int)) : Bool := okB l && (misI bells l == 0)
theorem inRange_of (l : List (Int × Int)) (h : okB l = true) : InRange l l.length := by
  rw [okB_eq] at h
  simp only [Bool.and_eq_true] at h
  have h2 := h.1.2
  unfold rangeB at h2
  rw [List.all_eq_true] at h2
  exact fun j hj => h2 j (List.mem_range.2 hj)

set_option maxHeartbeats 400000 in
theorem specPitches_any (A : Option Addr) (c : Nat) (l : List (Int × Int)) (w : World) (hA : NA w A l) (hn : l.length ≤ 1048576) (hin : InRange l l.length) :
    Calls Try.prog 16 #[.slice A l.length c] w fun e w' => e = .returned (.int .u64 (pitI l)) ∧ w = w' := by
  have HIN := hide hin
  clear hin
  go_enter Try.func16, Try.ntmps16
  go_wp2_with fail
  go_loop [3, 4] (fun s i => ∃ k : Nat, k ≤ l.length ∧ i = .int .i64 k ∧ s = .int .u64 (pitTo l k))
    (fun _ i => l.length - (intOf i).toNat)
  case atStart => exact ⟨0, Nat.zero_le _, rfl, rfl⟩
  case round =>
    obtain ⟨k, hk, rfl, rfl⟩ := hrel
    by_cases hlt : k < l.length
    · obtain ⟨b, o, rfl, hbb, c1, c2⟩ := hA k hlt
      obtain ⟨_, e3, e4⟩ : (0 ≤ nAt l k ∧ nAt l k ≤ 199) ∧ 0 ≤ nPi l k ∧ nPi l k ≤ 47 := by simpa [noteB] using HIN.out k hlt
      go_wp2
      go_round
      case rel => exact ⟨k + 1, hlt, by go_num, rfl⟩
      case measure => simp [intOf]; omega
    · obtain rfl : k = l.length := by omega
      go_wp2
      go_ret
      exact ⟨rfl, rfl⟩
set_option maxHeartbeats 400000 in
theorem implPitches_any (A : Option Addr) (c : Nat) (l : List (Int × Int)) (w : World) (hA : NA w A l) (hn : l.length ≤ 1048576) (hin : InRange l l.length) :
    Calls Try.prog 36 #[.slice A l.length c] w fun e w' => e = .returned (.int .u64 (pitI l)) ∧ Below w.heap.size w w' := by
  have HIN := hide hin
  clear hin
  go_enter Try.func36, Try.ntmps36
  go_wp2_with fail
  go_loopw [3, 8] (fun s i wr => ∃ k : Nat, k ≤ l.length ∧ i = .int .i64 k ∧ s = .int .u64 (pitTo l k) ∧ Below w.heap.size w wr)
    (fun _ i _ => l.length - (intOf i).toNat)
  case atStart => exact ⟨0, Nat.zero_le _, rfl, rfl, Below.refl _ _⟩
  case round =>
    obtain ⟨k, hk, rfl, rfl, hb⟩ := hrel
    by_cases hlt : k < l.length
    · obtain ⟨b, o, rfl, hbb, c1, c2⟩ := hA k hlt
      have d1 := (hb.cell (p := ⟨b, o + k * 2, none⟩) hbb).trans c1
      have d2 := (hb.cell (p := ⟨b, o + k * 2 + 1, none⟩) hbb).trans c2
      obtain ⟨_, e3, e4⟩ : (0 ≤ nAt l k ∧ nAt l k ≤ 199) ∧ 0 ≤ nPi l k ∧ nPi l k ≤ 47 := by simpa [noteB] using HIN.out k hlt
      have hb2 := hb.alloc hb.size (.cells #[.int .i16 (nAt l k), .int .i8 (nPi l k)] 43)
      clear c1 c2 hA
      go_wp2
      go_roundw
      case rel => exact ⟨k + 1, hlt, by go_num, rfl, hb2⟩
      case measure => simp [intOf]; omega
    · obtain rfl : k = l.length := by omega
      go_wp2
      go_ret
      exact ⟨rfl, hb⟩
theorem implMissing_any (A : Option Addr) (c : Nat) (l : List (Int × Int)) (x : Int) (w : World) (hA : NA w A l) (hn : l.length ≤ 1048576) (hin : InRange l l.length) :
    Calls Try.prog 21 #[.slice A l.length c, .int .u64 x] w fun e w' => e = .returned (.int .u64 (misI x l)) ∧ Below w.heap.size w w' := by
  go_enter Try.func21, Try.ntmps21
  go_wp2_with (go_at_call 36; refine (implPitches_any A c l _ hA hn hin).mono ?_; rintro e w' ⟨rfl, hb⟩)
  go_ret
  exact ⟨rfl, hb⟩

theorem bool' {x y : Bool} (h : x = y) : Value.bool x = Value.bool y := by rw [h]
theorem canB_false (x : Int) {l : List (Int × Int)} (h : okB l = false) : canB x l = false := by rw [canB, h]; rfl
theorem canB_true (x : Int) {l : List (Int × Int)} (h : okB l = true) : canB x l = (misI x l == 0) := by rw [canB, h]; rfl
end Go.Proofs.Ytghkcfghkbihcaa
