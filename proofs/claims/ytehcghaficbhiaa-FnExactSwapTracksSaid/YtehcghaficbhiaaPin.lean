import Derived.Test.YtehcghaficbhiaaHeld
namespace Go.Proofs.Ytehcghaficbhiaa
open Go.RowKit

def pinB (d : Nat → Int) (k t : Nat) : Bool := decide (d k / 2 ^ t % 2 = 1)
/-- there are such a step and such a track -/
def plB (s : Int) (n : Nat) (x y : Int) : Bool := inB x 0 (s - 1) && inB y 0 ((n : Int) - 1)
theorem plB_nat {s : Int} {n : Nat} {x y : Int} (h : plB s n x y = true) : ∃ k t : Nat, x = k ∧ y = t ∧ (k : Int) < s ∧ t < n := by
  simp only [plB, inB, Bool.and_eq_true, decide_eq_true_eq] at h
  exact ⟨x.toNat, y.toNat, by omega, by omega, by omega, by omega⟩

theorem shr_bounds (x : Int) (t : Nat) (h0 : 0 ≤ x) (h1 : x ≤ 4294967295) : 0 ≤ x / 2 ^ t ∧ x / 2 ^ t ≤ 4294967295 := by
  have hq : (0 : Int) < 2 ^ t := Int.pow_pos (by decide)
  exact ⟨Int.ediv_nonneg h0 (by omega), Int.le_trans (Int.ediv_le_self _ h0) h1⟩
theorem pin_tmod {d : Nat → Int} {k t : Nat} (h0 : 0 ≤ d k) (h1 : d k ≤ 4294967295) : ((d k / 2 ^ t).tmod 2 == 1) = pinB d k t := by
  rw [Int.tmod_eq_emod_of_nonneg (shr_bounds _ t h0 h1).1]
  rfl
theorem and_one32 (x : Int) (h0 : 0 ≤ x) (h1 : x ≤ 4294967295) : bits .and .u32 x 1 = x % 2 := by
  have h := bits_mask .u32 32 (by decide) wraps_u32 1 (by decide) x h0 (by omega)
  simpa using h
theorem pin_and {d : Nat → Int} {k t : Nat} (h0 : 0 ≤ d k) (h1 : d k ≤ 4294967295) : (bits .and .u32 (d k / 2 ^ t) 1 == 1) = pinB d k t := by
  rw [and_one32 _ (shr_bounds _ t h0 h1).1 (shr_bounds _ t h0 h1).2]
  rfl

set_option maxRecDepth 20000 in
set_option maxHeartbeats 1000000 in
theorem l02Place_any (b g : Nat) (s : Int) (A : Option Addr) (c : Nat) (l : List (Int × Int)) (d : Nat → Int) (x y : Int) (w : World) (hF : FP w b s A l.length c) (hD : Dr w g 32 d) (hA : HA w A l) (hn : l.length ≤ 1048576) (hwf : HWF l) (hs : -32768 ≤ s ∧ s ≤ 32767) (hd : DWF d) :
    Calls Try.prog 17 #[.pointer (some ⟨b, 0, none⟩), .pointer (some ⟨g, 0, none⟩), .int .i64 x, .int .i64 y] w (SaysI (cod3 (askB s l d) (plB s l.length x y)) w) := by
  obtain ⟨hs1, hs2⟩ := id hs
  go_enter Try.func17, Try.ntmps17
  go_wp2_with fail
  refine (l02Asked_any b g s A c l d w hF hD hA hn hwf hs hd).mono ?_
  rintro e w1 ⟨rfl, hb1⟩
  have F1 := hF.keep hb1
  have c1 := F1.1
  have c2 := F1.2
  cases ha : askB s l d
  · have HA' := hide ha
    simp only [codeI]
    clear ha
    go_wp2
    go_ret
    exact ⟨by rw [HA'.out]; rfl, hb1⟩
  · have HA' := hide ha
    simp only [codeI]
    clear ha
    cases h1 : inB x 0 (s - 1)
    · have K1 : ∀ W, Calls Try.prog 35 #[.int .i64 x, .int .i64 0, .int .i64 (s - 1)] W fun e w' => e = .returned (.bool false) ∧ W = w' := fun W => by rw [← h1]; exact l00In_any _ _ _ W
      have HX := hide (show plB s l.length x y = false by simp [plB, h1])
      clear h1
      go_wp2_with (go_at_call 35; with_reducible refine (K1 _).mono ?_; rintro e w' ⟨rfl, rfl⟩)
      go_ret
      exact ⟨by rw [HA'.out, HX.out]; rfl, hb1⟩
    · have K1 : ∀ W, Calls Try.prog 35 #[.int .i64 x, .int .i64 0, .int .i64 (s - 1)] W fun e w' => e = .returned (.bool true) ∧ W = w' := fun W => by rw [← h1]; exact l00In_any _ _ _ W
      cases h2 : inB y 0 ((l.length : Int) - 1)
      · have K2 : ∀ W, Calls Try.prog 35 #[.int .i64 y, .int .i64 0, .int .i64 ((l.length : Int) - 1)] W fun e w' => e = .returned (.bool false) ∧ W = w' := fun W => by rw [← h2]; exact l00In_any _ _ _ W
        have HX := hide (show plB s l.length x y = false by simp [plB, h2])
        clear h1 h2
        go_wp2_with (first | (go_at_call 35; with_reducible refine (K1 _).mono ?_; rintro e w' ⟨rfl, rfl⟩) | (go_at_call 35; with_reducible refine (K2 _).mono ?_; rintro e w' ⟨rfl, rfl⟩))
        go_ret
        exact ⟨by rw [HA'.out, HX.out]; rfl, hb1⟩
      · have K2 : ∀ W, Calls Try.prog 35 #[.int .i64 y, .int .i64 0, .int .i64 ((l.length : Int) - 1)] W fun e w' => e = .returned (.bool true) ∧ W = w' := fun W => by rw [← h2]; exact l00In_any _ _ _ W
        have HX := hide (show plB s l.length x y = true by simp [plB, h1, h2])
        clear h1 h2
        go_wp2_with (first | (go_at_call 35; with_reducible refine (K1 _).mono ?_; rintro e w' ⟨rfl, rfl⟩) | (go_at_call 35; with_reducible refine (K2 _).mono ?_; rintro e w' ⟨rfl, rfl⟩))
        go_ret
        exact ⟨by rw [HA'.out, HX.out]; rfl, hb1⟩

theorem l02Pin_any (g k t : Nat) (d : Nat → Int) (w : World) (hD : Dr w g 32 d) (hk : k < 96) (ht : t < 32) (hd : DWF d) :
    Calls Try.prog 18 #[.pointer (some ⟨g, 0, none⟩), .int .i64 k, .int .i64 t] w fun e w' => e = .returned (.bool (pinB d k t)) ∧ w = w' := by
  have c1 := hD.cell hk
  obtain ⟨x1, x2⟩ := hd k hk
  have hp := pin_tmod (d := d) (k := k) (t := t) x1 x2
  go_enter Try.func18, Try.ntmps18
  go_wp2
  go_ret
  exact ⟨rfl, rfl⟩
theorem has_any (k t : Nat) (d : Nat → Int) (w : World) (hk : k < 96) (ht : t < 32) (hd : DWF d) :
    Calls Try.prog 40 #[.agg (da d), .int .i64 k, .int .i64 t] w (Says (pinB d k t) w) := by
  have hb0 : Below w.heap.size w (w.alloc (.cells (da d) 32)) := (Below.refl _ _).alloc (Nat.le_refl _) _
  have hD : Dr (w.alloc (.cells (da d) 32)) w.heap.size 32 d := heap_new' _ _ _ rfl
  have c1 := hD.cell hk
  obtain ⟨x1, x2⟩ := hd k hk
  have hp := pin_and (d := d) (k := k) (t := t) x1 x2
  go_enter Try.func40, Try.ntmps40
  go_wp2
  go_ret
  exact ⟨rfl, hb0⟩
theorem hasTrack_any (s y : Int) (A : Option Addr) (n c : Nat) (w : World) (hn : n ≤ 1048576) :
    Calls Try.prog 21 #[.agg #[.int .i64 s, .slice A n c], .int .i64 y] w (Says (inB y 0 ((n : Int) - 1)) w) := by
  have hb0 : Below w.heap.size w (w.alloc (.cells #[.int .i64 s, .slice A n c] 55)) := (Below.refl _ _).alloc (Nat.le_refl _) _
  have HT := fun W => tracks_any A n c hn W
  go_enter Try.func21, Try.ntmps21
  go_wp2_with (first | (go_at_call 31; with_reducible refine (HT _).mono ?_; rintro e w' ⟨rfl, rfl⟩) | (go_at_call 37; refine (within_any _ _ _ _).mono ?_; rintro e w' ⟨rfl, rfl⟩))
  go_ret
  exact ⟨rfl, hb0⟩

/-- HasPin's answer -/
def hasB (s : Int) (l : List (Int × Int)) (d : Nat → Int) (x y : Int) : Bool := askB s l d && plB s l.length x y && pinB d x.toNat y.toNat
def hasC (s : Int) (l : List (Int × Int)) (d : Nat → Int) (x y : Int) : Int := cod3 (askB s l d) (plB s l.length x y)
theorem ask_all {s : Int} {l : List (Int × Int)} {d : Nat → Int} (h : askB s l d = true) : (2 ≤ s ∧ s ≤ 96) ∧ (1 ≤ l.length ∧ l.length ≤ 24) ∧ HG s l l.length ∧ drB s l.length d = true := by
  simp only [askB, Bool.and_eq_true] at h
  have := frB_all h.1
  exact ⟨this.1, this.2.1, this.2.2, h.2⟩
end Go.Proofs.Ytehcghaficbhiaa
