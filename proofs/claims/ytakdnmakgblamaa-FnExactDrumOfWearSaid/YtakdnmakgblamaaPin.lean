import Derived.Test.YtakdnmakgblamaaHeld
namespace Go.Proofs.Ytakdnmakgblamaa
open Go.RowKit

def pinB (d : Nat → Int) (k t : Nat) : Bool := decide (d k / 2 ^ t % 2 = 1)
/-- there are such a step and such a track -/
def plB (s : Int) (n : Nat) (x y : Int) : Bool := inB x 0 (s - 1) && inB y 0 ((n : Int) - 1)
theorem plB_nat {s : Int} {n : Nat} {x y : Int} (h : plB s n x y = true) : ∃ k t : Nat, x = k ∧ y = t ∧ (k : Int) < s ∧ t < n := by
  simp only [plB, inB, Bool.and_eq_true, decide_eq_true_eq] at h
  exact ⟨x.toNat, y.toNat, by omega, by omega, by omega, by omega⟩

theorem shr_bounds (x : Int) (t : Nat) (h0 : 0 ≤ x) (h1 : x ≤ 4294967295) : 0 ≤ x / 2 ^ t ∧ x / 2 ^ t ≤ 4294967295 := by
  have hq : (0 : Int) < 2 ^ t := Int.pow_pos (by decide)
  exact ⟨Int.ediv_nonneg h0 (by omega), Int.le_trans (Int.ediv_le_self _ h0) h1⟩
theorem pin_tmod {d : Nat → Int} {k t : Nat} (h0 : 0 ≤ d k) (h1 : d k ≤ 4294967295) : ((d k / 2 ^ t).tmod 2 == 1) = pinB d k t := by
  rw [Int.tmod_eq_emod_of_nonneg (shr_bounds _ t h0 h1).1]
  rfl
theorem and_one32 (x : Int) (h0 : 0 ≤ x) (h1 : x ≤ 4294967295) : bits .and .u32 x 1 = x % 2 := by
  have h := bits_mask .u32 32 (by decide) wraps_u32 1 (by decide) x h0 (by omega)
  simpa using h
theorem pin_and {d : Nat → Int} {k t : Nat} (h0 : 0 ≤ d k) (h1 : d k ≤ 4294967295) : (bits .and .u32 (d k / 2 ^ t) 1 == 1) = pinB d k t := by
  rw [and_one32 _ (shr_bounds _ t h0 h1).1 (shr_bounds _ t h0 h1).2]
  rfl

theorem hasStep_any (s x : Int) (A : Option Addr) (n c : Nat) (w : World) (hs : -32768 ≤ s ∧ s ≤ 32767) :
    Calls Try.prog 126 #[.agg #[.int .i64 s, .slice A n c], .int .i64 x] w (Says (inB x 0 (s - 1)) w) := by
  have hb0 : Below w.heap.size w (w.alloc (.cells #[.int .i64 s, .slice A n c] 91)) := (Below.refl _ _).alloc (Nat.le_refl _) _
  obtain ⟨h1, h2⟩ := hs
  go_enter Try.func126, Try.ntmps126
  go_wp2_with (go_at_call 48; refine (within_any _ _ _ _).mono ?_; rintro e w' ⟨rfl, rfl⟩)
  go_ret
  exact ⟨rfl, hb0⟩
theorem hasTrack_any (s y : Int) (A : Option Addr) (n c : Nat) (w : World) (hn : n ≤ 1048576) :
    Calls Try.prog 127 #[.agg #[.int .i64 s, .slice A n c], .int .i64 y] w (Says (inB y 0 ((n : Int) - 1)) w) := by
  have hb0 : Below w.heap.size w (w.alloc (.cells #[.int .i64 s, .slice A n c] 91)) := (Below.refl _ _).alloc (Nat.le_refl _) _
  have HT := fun W => tracks_any A n c hn W
  go_enter Try.func127, Try.ntmps127
  go_wp2_with (first | (go_at_call 106; with_reducible refine (HT _).mono ?_; rintro e w' ⟨rfl, rfl⟩) | (go_at_call 48; refine (within_any _ _ _ _).mono ?_; rintro e w' ⟨rfl, rfl⟩))
  go_ret
  exact ⟨rfl, hb0⟩

/-- HasPin's answer -/
def hasB (s : Int) (l : List (Int × Int)) (d : Nat → Int) (x y : Int) : Bool := askB s l d && plB s l.length x y && pinB d x.toNat y.toNat
def hasC (s : Int) (l : List (Int × Int)) (d : Nat → Int) (x y : Int) : Int := cod3 (askB s l d) (plB s l.length x y)
theorem ask_all {s : Int} {l : List (Int × Int)} {d : Nat → Int} (h : askB s l d = true) : (2 ≤ s ∧ s ≤ 96) ∧ (1 ≤ l.length ∧ l.length ≤ 24) ∧ HG s l l.length ∧ drB s l.length d = true := by
  simp only [askB, Bool.and_eq_true] at h
  have := frB_all h.1
  exact ⟨this.1, this.2.1, this.2.2, h.2⟩
end Go.Proofs.Ytakdnmakgblamaa
