import Derived.Test.YtlbjakmfalhliaaFre
namespace Go.Proofs.Ytlbjakmfalhliaa
open Go.RowKit

/-- two values come back; what there was is as it was -/
def Pair (x y : Value) (w : World) (e : Ending) (w' : World) : Prop := e = .returned (.tuple #[x, y]) ∧ Below w.heap.size w w'
theorem ret_int' {k : IntKind} {x y : Int} (h : x = y) : Value.int k x = Value.int k y := by rw [h]
theorem ret2 {x x' y y' : Value} (h1 : x = x') (h2 : y = y') : Ending.returned (.tuple #[x, y]) = .returned (.tuple #[x', y']) := by rw [h1, h2]
def codeI (b : Bool) : Int := if b then 0 else 1
/-- a number where the bool says yes, and 0 -/
def onlyI (b : Bool) (x : Int) : Int := if b then x else 0

/-- the set of the first k hammers' pitches, as the walk spells it -/
def belTo (l : List (Int × Int)) : Nat → Int
  | 0 => 0
  | k + 1 => bits .or .u64 (belTo l k) (IntKind.u64.wrap (2 ^ (hPi l k).toNat))
def belI (l : List (Int × Int)) : Int := belTo l l.length
theorem HG.at {s : Int} {l : List (Int × Int)} {n k : Nat} (h : HG s l n) (hk : k < n) : (0 ≤ hPi l k ∧ hPi l k ≤ 47) ∧ (1 ≤ hRe l k ∧ hRe l k ≤ 20 ∧ hRe l k ≤ s) := by
  have := h k hk
  simp only [hamB, inB, Bool.and_eq_true, decide_eq_true_eq] at this
  have hm : mnI s ≤ 20 ∧ mnI s ≤ s := by unfold mnI; split <;> omega
  omega

set_option maxHeartbeats 1000000 in
theorem bells_any (s : Int) (A : Option Addr) (c : Nat) (l : List (Int × Int)) (w : World) (hA : HA w A l) (hn : l.length ≤ 1048576) (hg : HG s l l.length) :
    Calls Try.prog 54 #[.slice A l.length c] w fun e w' => e = .returned (.int .u64 (belI l)) ∧ Below w.heap.size w w' := by
  have HGG := hide hg
  clear hg
  go_enter Try.func54, Try.ntmps54
  go_wp2_with fail
  go_loopw [3, 8] (fun s i wr => ∃ k : Nat, k ≤ l.length ∧ i = .int .i64 k ∧ s = .int .u64 (belTo l k) ∧ Below w.heap.size w wr)
    (fun _ i _ => l.length - (intOf i).toNat)
  case atStart => exact ⟨0, Nat.zero_le _, rfl, rfl, Below.refl _ _⟩
  case round =>
    obtain ⟨k, hk, rfl, rfl, hb⟩ := hrel
    by_cases hlt : k < l.length
    · obtain ⟨b, o, rfl, hbb, c1, c2⟩ := hA k hlt
      have d1 := (hb.cell (p := ⟨b, o + k * 2, none⟩) hbb).trans c1
      have d2 := (hb.cell (p := ⟨b, o + k * 2 + 1, none⟩) hbb).trans c2
      obtain ⟨⟨e3, e4⟩, _⟩ := HGG.out.at hlt
      have hb2 := hb.alloc hb.size (.cells #[.int .i8 (hPi l k), .int .i8 (hRe l k)] 80)
      clear c1 c2 hA
      go_wp2
      go_roundw
      case rel => exact ⟨k + 1, hlt, by go_num, rfl, hb2⟩
      case measure => simp [intOf]; omega
    · obtain rfl : k = l.length := by omega
      go_wp2
      go_ret
      exact ⟨rfl, hb⟩

set_option maxHeartbeats 1000000 in
theorem specBellsOf_any (s : Int) (A : Option Addr) (c : Nat) (l : List (Int × Int)) (w : World) (hA : HA w A l) (hn : l.length ≤ 1048576) (hwf : HWF l) (hs : -32768 ≤ s ∧ s ≤ 32767) :
    Calls Try.prog 23 #[.agg #[.int .i16 s, .slice A l.length c]] w (Pair (.int .u64 (onlyI (frB s l) (belI l))) (.int .i64 (codeI (frB s l))) w) := by
  have hb0 : Below w.heap.size w (w.alloc (.cells #[.int .i16 s, .slice A l.length c] 30)) := (Below.refl _ _).alloc (Nat.le_refl _) _
  have hF : FP (w.alloc (.cells #[.int .i16 s, .slice A l.length c] 30)) w.heap.size s A l.length c := ⟨by simp [go_sem], by simp [go_sem]⟩
  go_enter Try.func23, Try.ntmps23
  go_wp2_with fail
  refine (l02Frame_any _ s A c l _ hF (hA.below hb0) hn hwf hs).mono ?_
  rintro e w1 ⟨rfl, hb1⟩
  have b1 := step_below hb1 hb0
  have F1 := hF.keep hb1
  cases hf : frB s l
  · go_wp2
    go_ret2
    exact ⟨by rw [hf]; rfl, b1⟩
  · have HGG := hide (frB_all hf).2.2
    have c1 := F1.1
    have c2 := F1.2
    have HF := hide hf
    clear hf
    go_wp2_with fail
    go_loop [4, 5] (fun s i => ∃ k : Nat, k ≤ l.length ∧ i = .int .i64 k ∧ s = .int .u64 (belTo l k))
      (fun _ i => l.length - (intOf i).toNat)
    case atStart => exact ⟨0, Nat.zero_le _, rfl, rfl⟩
    case round =>
      obtain ⟨k, hk, rfl, rfl⟩ := hrel
      by_cases hlt : k < l.length
      · obtain ⟨b, o, rfl, hbb, d1, d2⟩ := (hA.below b1) k hlt
        obtain ⟨⟨e3, e4⟩, _⟩ := HGG.out.at hlt
        go_wp2
        go_round
        case rel => exact ⟨k + 1, hlt, by go_num, rfl⟩
        case measure => simp [intOf]; omega
      · obtain rfl : k = l.length := by omega
        go_wp2
        go_ret2
        exact ⟨by rw [HF.out]; rfl, b1⟩

theorem implBellsOf_any (s : Int) (A : Option Addr) (c : Nat) (l : List (Int × Int)) (w : World) (hA : HA w A l) (hn : l.length ≤ 1048576) (hwf : HWF l) (hs : -32768 ≤ s ∧ s ≤ 32767) :
    Calls Try.prog 24 #[.agg #[.int .i16 s, .slice A l.length c]] w (Pair (.int .u64 (onlyI (frB s l) (belI l))) (.int .i64 (codeI (frB s l))) w) := by
  have hb0 : Below w.heap.size w (w.alloc (.cells #[.int .i16 s, .slice A l.length c] 30)) := (Below.refl _ _).alloc (Nat.le_refl _) _
  go_enter Try.func24, Try.ntmps24
  go_wp2_with fail
  refine (machineFor_any s A c l _ true _ (hA.below hb0) hn hwf hs (fun _ W _ => fits_nil _ s A l.length c rfl W)).mono ?_
  rintro e w2 ⟨rfl, hb2⟩
  have b2 := step_below hb2 hb0
  have hbx := b2.alloc b2.size (.cells #[.int .i64 s, .slice A l.length c] 71)
  rw [Bool.and_true]
  cases hf : frB s l
  · go_wp2
    go_ret2
    exact ⟨by rw [hf]; rfl, hbx⟩
  · go_wp2_with (go_at_call 54; refine (bells_any s A c l _ (hA.below hbx) hn (frB_all hf).2.2).mono ?_; rintro e w3 ⟨rfl, hb3⟩)
    go_ret2
    exact ⟨by rw [hf]; rfl, step_below hb3 hbx⟩
end Go.Proofs.Ytlbjakmfalhliaa
