import Derived.Test.YtdglhgfhlcdflaaDoorGaw
import Derived.Deep.RegionHeld3
import Derived.Test.YtdglhgfhlcdflaaDoorGag
namespace Go.Proofs.YtdglhgfhlcdflaaDoor
open Go.RowKit

def dstN (S B k : Nat) : Nat := if k + B < S then k + B else k + B - S
def srcN (S B i : Nat) : Nat := if B ≤ i then i - B else i + S - B
theorem dst_lt {S B k : Nat} (hk : k < S) (hB : B < S) : dstN S B k < S := by unfold dstN; split <;> omega
theorem src_dst {S B k i : Nat} (hk : k < S) (hB : B < S) (hi : i < S) : srcN S B i = k ↔ i = dstN S B k := by
  unfold srcN dstN; split <;> split <;> omega
theorem src_lt {S B i : Nat} (hB : B < S) (hi : i < S) : srcN S B i < S := by unfold srcN; split <;> omega
theorem mod_dst {S B k : Nat} (hk : k < S) (hB : B < S) : (k + B) % S = dstN S B k := by
  unfold dstN
  split
  · exact Nat.mod_eq_of_lt ‹_›
  · rw [Nat.mod_eq_sub_mod (by omega)]; exact Nat.mod_eq_of_lt (by omega)
theorem mod_dst' {S B k : Nat} (hk : k < S) (hB : B < S) : (k + B + S) % S = dstN S B k := by
  rw [Nat.add_mod_right]; exact mod_dst hk hB
/-- the turned drum, its first k steps laid -/
def turT (S B : Nat) (d : Nat → Int) (k : Nat) (i : Nat) : Int := if i < S ∧ srcN S B i < k then d (srcN S B i) else 0
theorem turT_step {S B k : Nat} {d : Nat → Int} (hk : k < S) (hB : B < S) (i : Nat) : (if i = dstN S B k then d k else turT S B d k i) = turT S B d (k + 1) i := by
  unfold turT
  by_cases e : i = dstN S B k
  · have hi : i < S := e ▸ dst_lt hk hB
    have hs := (src_dst hk hB hi).2 e
    rw [if_pos e, hs, if_pos ⟨hi, by omega⟩]
  · rw [if_neg e]
    by_cases hi : i < S
    · have hs : srcN S B i ≠ k := fun h => e ((src_dst hk hB hi).1 h)
      by_cases h2 : srcN S B i < k
      · rw [if_pos ⟨hi, h2⟩, if_pos ⟨hi, by omega⟩]
      · rw [if_neg (fun h => h2 h.2), if_neg (fun h => by have := h.2; omega)]
    · rw [if_neg (fun h => hi h.1), if_neg (fun h => hi h.1)]
theorem turT_zero (S B : Nat) (d : Nat → Int) : turT S B d 0 = fun _ => 0 := by funext i; simp [turT]
def turC (s : Int) (l : List (Int × Int)) (d : Nat → Int) (x : Int) : Int := cod3 (askB s l d) (inB x 0 (s - 1))
def turD (s : Int) (l : List (Int × Int)) (d : Nat → Int) (x : Int) : Nat → Int := if turC s l d x = 0 then turT s.toNat x.toNat d s.toNat else fun _ => 0

set_option maxRecDepth 20000 in
set_option maxHeartbeats 1000000 in
theorem around_any (S y : Nat) (A : Option Addr) (n c : Nat) (w : World) (hS : 2 ≤ S ∧ S ≤ 96) (hy : y ≤ 200) :
    Calls Tryd.prog 81 #[.agg #[.int .i64 S, .slice A n c], .int .i64 y] w fun e w' => e = .returned (.int .i64 ((y % S : Nat) : Int)) ∧ Below w.heap.size w w' := by
  have hb0 : Below w.heap.size w (w.alloc (.cells #[.int .i64 S, .slice A n c] 70)) := (Below.refl _ _).alloc (Nat.le_refl _) _
  have hne : ((S : Int) == 0) = false := by simp; omega
  go_enter Tryd.func81, Tryd.ntmps81
  go_wp2
  go_ret
  exact ⟨ret_int (by rw [← Int.natCast_add, ← Int.natCast_emod, Nat.add_mod_right]), hb0⟩

theorem pl_zero {s x : Int} {l : List (Int × Int)} {d : Nat → Int} (h : askB s l d = true) : plB s l.length x 0 = inB x 0 (s - 1) := by
  have hl := (ask_all h).2.1.1
  have h2 : inB 0 0 ((l.length : Int) - 1) = true := by simp [inB]; omega
  rw [plB, h2, Bool.and_true]
end Go.Proofs.YtdglhgfhlcdflaaDoor
namespace Go.Proofs.YtdglhgfhlcdflaaDoor
open Go.RowKit

end Go.Proofs.YtdglhgfhlcdflaaDoor
namespace Go.Proofs.YtdglhgfhlcdflaaDoor
open Go.RowKit

/-- a pin of the track at the step g behind, or g ahead -/
def frAt (S : Nat) (d : Nat → Int) (k t g : Nat) : Bool := pinB d ((k + g) % S) t || pinB d ((k + S - g) % S) t
def freeB (S : Nat) (d : Nat → Int) (r k t : Nat) : Bool := (List.range r).all fun g => !frAt S d k t g
def FRG (S : Nat) (d : Nat → Int) (k t n : Nat) : Prop := ∀ g, g < n → frAt S d k t g = false
theorem FRG_succ {S : Nat} {d : Nat → Int} {k t n : Nat} (h : FRG S d k t n) (h' : frAt S d k t n = false) : FRG S d k t (n + 1) := fun j hj => by
  rcases Nat.lt_or_ge j n with h1 | h1
  · exact h j h1
  · rw [show j = n by omega]; exact h'
theorem freeB_yes {S : Nat} {d : Nat → Int} {r k t : Nat} (h : FRG S d k t r) : freeB S d r k t = true := by
  simp only [freeB, List.all_eq_true, List.mem_range, Bool.not_eq_true']
  exact h
theorem freeB_no {S : Nat} {d : Nat → Int} {r k t g : Nat} (hg : g < r) (h : frAt S d k t g = true) : freeB S d r k t = false := by
  rw [freeB, List.all_eq_false]
  exact ⟨g, List.mem_range.2 hg, by simp [h]⟩
theorem frAt_zero {S : Nat} {d : Nat → Int} {k t : Nat} (hk : k < S) : frAt S d k t 0 = pinB d k t := by
  unfold frAt
  rw [Nat.add_zero, Nat.sub_zero, Nat.add_mod_right, Nat.mod_eq_of_lt hk, Bool.or_self]

set_option maxRecDepth 20000 in
set_option maxHeartbeats 1000000 in
theorem aroundSub_any (S k g : Nat) (A : Option Addr) (n c : Nat) (w : World) (hS : 2 ≤ S ∧ S ≤ 96) (hk : k < S) (hg : g < S) :
    Calls Tryd.prog 81 #[.agg #[.int .i64 S, .slice A n c], .int .i64 ((k : Int) - (g : Int))] w fun e w' => e = .returned (.int .i64 (((k + S - g) % S : Nat) : Int)) ∧ Below w.heap.size w w' := by
  have hb0 : Below w.heap.size w (w.alloc (.cells #[.int .i64 S, .slice A n c] 70)) := (Below.refl _ _).alloc (Nat.le_refl _) _
  have hne : ((S : Int) == 0) = false := by simp; omega
  have h0 : 0 ≤ (k : Int) - (g : Int) + (S : Int) := by omega
  have e1 : (((k + S - g : Nat)) : Int) = (k : Int) - (g : Int) + (S : Int) := by omega
  go_enter Tryd.func81, Tryd.ntmps81
  go_wp2
  go_ret
  exact ⟨ret_int (by rw [Int.natCast_emod, e1]), hb0⟩

set_option maxRecDepth 20000 in
set_option maxHeartbeats 2000000 in
theorem l02Free_any (b g : Nat) (S : Nat) (A : Option Addr) (c : Nat) (l : List (Int × Int)) (d : Nat → Int) (k t : Nat) (w : World) (hF : FP w b S A l.length c) (hD : Dr w g 43 d) (hA : HA w A l) (hS : 2 ≤ S ∧ S ≤ 96) (hl : l.length ≤ 24) (hg : HG S l l.length) (hk : k < S) (ht : t < l.length) (hd : DWF d) :
    Calls Tryd.prog 68 #[.pointer (some ⟨b, 0, none⟩), .pointer (some ⟨g, 0, none⟩), .int .i64 k, .int .i64 t] w fun e w' => e = .returned (.bool (freeB S d (hRe l t).toNat k t)) ∧ w = w' := by
  obtain ⟨g1, g2⟩ := hF
  obtain ⟨bb, o, rfl, hbb, c1, c2⟩ := hA t ht
  obtain ⟨_, e1, e2, e3⟩ := hg.at ht
  obtain ⟨R, hR⟩ : ∃ R : Nat, hRe l t = (R : Int) := ⟨(hRe l t).toNat, by omega⟩
  rw [hR] at c2 e1 e2 e3
  have hRn : (hRe l t).toNat = R := by omega
  rw [hRn]
  clear hR hRn hA hg
  have KP : ∀ (y : Nat), y < 96 → ∀ W, W = w → Calls Tryd.prog 59 #[.pointer (some ⟨g, 0, none⟩), .int .i64 (y : Int), .int .i64 t] W fun e w' => e = .returned (.bool (pinB d y t)) ∧ W = w' := fun y hy W hW => by subst hW; exact l02Pin_any g y t d _ hD hy (by omega) hd
  have hk96 : k < 96 := by omega
  cases hp : pinB d k t
  · have K0 : Calls Tryd.prog 59 #[.pointer (some ⟨g, 0, none⟩), .int .i64 (k : Int), .int .i64 t] w fun e w' => e = .returned (.bool false) ∧ w = w' := by rw [← hp]; exact KP k hk96 w rfl
    have H0 := hide (show frAt S d k t 0 = false by rw [frAt_zero hk, hp])
    clear hp
    go_enter Tryd.func68, Tryd.ntmps68
    go_wp2_with (go_at_call 59; refine K0.mono ?_; rintro e w' ⟨rfl, rfl⟩)
    go_loop [11] (fun i => ∃ n : Nat, 1 ≤ n ∧ n ≤ R ∧ i = .int .i64 n ∧ FRG S d k t n) (fun i => R - (intOf i).toNat)
    case atStart => exact ⟨1, Nat.le_refl _, by omega, rfl, fun j hj => by rw [show j = 0 by omega]; exact H0.out⟩
    case round =>
      obtain ⟨n, hn1, hnR, rfl, hG⟩ := hrel
      have HGG := hide hG
      clear hG
      by_cases hlt : n < R
      · obtain ⟨y1, hy1e⟩ : ∃ y1, (k + n) % S = y1 := ⟨_, rfl⟩
        obtain ⟨y2, hy2e⟩ : ∃ y2, (k + S - n) % S = y2 := ⟨_, rfl⟩
        have hm1 : ((k : Int) + (n : Int)) % (S : Int) = (y1 : Int) := by rw [← hy1e]; push_cast; rfl
        have hm2 : ((k : Int) + (S : Int) - (n : Int)) % (S : Int) = (y2 : Int) := by rw [← hy2e, Int.natCast_emod]; congr 1; omega
        have hne : ((S : Int) == 0) = false := by simp; omega
        have hy1 : y1 < 96 := by rw [← hy1e]; exact Nat.lt_of_lt_of_le (Nat.mod_lt _ (by omega)) (by omega)
        have hy2 : y2 < 96 := by rw [← hy2e]; exact Nat.lt_of_lt_of_le (Nat.mod_lt _ (by omega)) (by omega)
        have hfr : frAt S d k t n = (pinB d y1 t || pinB d y2 t) := by rw [frAt, hy1e, hy2e]
        clear hy1e hy2e
        cases p1 : pinB d y1 t
        · cases p2 : pinB d y2 t
          · have HX := hide (show frAt S d k t n = false by rw [hfr, p1, p2]; rfl)
            have K1 : ∀ W, W = w → Calls Tryd.prog 59 #[.pointer (some ⟨g, 0, none⟩), .int .i64 (y1 : Int), .int .i64 t] W fun e w' => e = .returned (.bool false) ∧ W = w' := by rw [← p1]; exact KP y1 hy1
            have K2 : ∀ W, W = w → Calls Tryd.prog 59 #[.pointer (some ⟨g, 0, none⟩), .int .i64 (y2 : Int), .int .i64 t] W fun e w' => e = .returned (.bool false) ∧ W = w' := by rw [← p2]; exact KP y2 hy2
            clear p1 p2 hfr
            go_wp2_with (first | (go_at_call 59; with_reducible refine (K1 _ rfl).mono ?_; rintro e w' ⟨rfl, rfl⟩) | (go_at_call 59; with_reducible refine (K2 _ rfl).mono ?_; rintro e w' ⟨rfl, rfl⟩))
            go_round
            case rel => exact ⟨n + 1, by omega, hlt, by go_num, FRG_succ HGG.out HX.out⟩
            case measure => simp [intOf]; omega
          · have HX := hide (show frAt S d k t n = true by rw [hfr, p1, p2]; rfl)
            have K1 : ∀ W, W = w → Calls Tryd.prog 59 #[.pointer (some ⟨g, 0, none⟩), .int .i64 (y1 : Int), .int .i64 t] W fun e w' => e = .returned (.bool false) ∧ W = w' := by rw [← p1]; exact KP y1 hy1
            have K2 : ∀ W, W = w → Calls Tryd.prog 59 #[.pointer (some ⟨g, 0, none⟩), .int .i64 (y2 : Int), .int .i64 t] W fun e w' => e = .returned (.bool true) ∧ W = w' := by rw [← p2]; exact KP y2 hy2
            clear p1 p2 hfr
            go_wp2_with (first | (go_at_call 59; with_reducible refine (K1 _ rfl).mono ?_; rintro e w' ⟨rfl, rfl⟩) | (go_at_call 59; with_reducible refine (K2 _ rfl).mono ?_; rintro e w' ⟨rfl, rfl⟩))
            go_ret
            exact ⟨ret_bool (freeB_no hlt HX.out).symm, rfl⟩
        · have HX := hide (show frAt S d k t n = true by rw [hfr, p1]; rfl)
          have K1 : ∀ W, W = w → Calls Tryd.prog 59 #[.pointer (some ⟨g, 0, none⟩), .int .i64 (y1 : Int), .int .i64 t] W fun e w' => e = .returned (.bool true) ∧ W = w' := by rw [← p1]; exact KP y1 hy1
          clear p1 hfr
          go_wp2_with (first | (go_at_call 59; with_reducible refine (K1 _ rfl).mono ?_; rintro e w' ⟨rfl, rfl⟩))
          go_ret
          exact ⟨ret_bool (freeB_no hlt HX.out).symm, rfl⟩
      · obtain rfl : n = R := by omega
        go_wp2
        go_ret
        exact ⟨ret_bool (freeB_yes HGG.out).symm, rfl⟩
  · have K0 : Calls Tryd.prog 59 #[.pointer (some ⟨g, 0, none⟩), .int .i64 (k : Int), .int .i64 t] w fun e w' => e = .returned (.bool true) ∧ w = w' := by rw [← hp]; exact KP k hk96 w rfl
    have H0 := hide (show frAt S d k t 0 = true by rw [frAt_zero hk, hp])
    clear hp
    go_enter Tryd.func68, Tryd.ntmps68
    go_wp2_with (go_at_call 59; refine K0.mono ?_; rintro e w' ⟨rfl, rfl⟩)
    go_ret
    exact ⟨ret_bool (freeB_no (by omega) H0.out).symm, rfl⟩

end Go.Proofs.YtdglhgfhlcdflaaDoor
namespace Go.Proofs.YtdglhgfhlcdflaaDoor
open Go.RowKit
/-- a slice of numbers of the call's own, and a code -/
def OwnZ (w : World) (zs : List Int) (cc : Int) (e : Ending) (w' : World) : Prop := ∃ (A : Option Addr) (c : Nat), e = .returned (.tuple #[.slice A zs.length c, .int .i64 cc]) ∧ w'.ownsRow w.heap.size 2 1 (.slice A zs.length c) zs.length (icells zs) ∧ Below w.heap.size w w'
end Go.Proofs.YtdglhgfhlcdflaaDoor
namespace Go.Proofs.YtdglhgfhlcdflaaDoor
open Go.RowKit

/-- the free places of a track, ahead of k -/
def frl (S : Nat) (d : Nat → Int) (r t : Nat) (k : Nat) : List Nat := (List.range k).filter fun i => freeB S d r i t
theorem frl_len (S : Nat) (d : Nat → Int) (r t k : Nat) : (frl S d r t k).length ≤ k := by simpa [frl] using List.length_filter_le (fun i => freeB S d r i t) (List.range k)
theorem frl_yes {S : Nat} {d : Nat → Int} {r t k : Nat} (h : freeB S d r k t = true) : frl S d r t (k + 1) = frl S d r t k ++ [k] := by simp [frl, List.range_succ, List.filter_append, h]
theorem frl_no {S : Nat} {d : Nat → Int} {r t k : Nat} (h : freeB S d r k t = false) : frl S d r t (k + 1) = frl S d r t k := by simp [frl, List.range_succ, List.filter_append, h]
/-- a slice of the call's own and a code come back -/
def OwnP (w : World) (xs : List Nat) (cc : Int) (e : Ending) (w' : World) : Prop := ∃ (A : Option Addr) (c : Nat), e = .returned (.tuple #[.slice A xs.length c, .int .i64 cc]) ∧ w'.ownsRow w.heap.size 2 1 (.slice A xs.length c) xs.length (tcells xs) ∧ Below w.heap.size w w'
def fpC (s : Int) (l : List (Int × Int)) (d : Nat → Int) (x : Int) : Int := cod3 (askB s l d) (inB x 0 ((l.length : Int) - 1))
def fpL (s : Int) (l : List (Int × Int)) (d : Nat → Int) (x : Int) : List Nat := if fpC s l d x = 0 then frl s.toNat d (hRe l x.toNat).toNat x.toNat s.toNat else []
theorem own_empty {w : World} {base : Nat} (h : base ≤ w.heap.size) : (w.alloc (.cells #[] 2)).ownsRow base 2 1 (.slice (some ⟨w.heap.size, 0, none⟩) 0 0) 0 [] :=
  ⟨rfl, Or.inr ⟨w.heap.size, 0, #[], rfl, h, heap_alloc_new _ _, Nat.le_refl _, Nat.zero_le _, rfl, rfl⟩⟩
theorem pl_step {s x : Int} {l : List (Int × Int)} {d : Nat → Int} (h : askB s l d = true) : plB s l.length 0 x = inB x 0 ((l.length : Int) - 1) := by
  have hl := (ask_all h).1
  have h2 : inB 0 0 (s - 1) = true := by simp [inB]; omega
  rw [plB, h2, Bool.true_and]

end Go.Proofs.YtdglhgfhlcdflaaDoor
