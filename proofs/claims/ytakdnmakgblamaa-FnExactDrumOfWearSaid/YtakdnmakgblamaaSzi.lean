import Derived.Test.YtakdnmakgblamaaMkf
namespace Go.Proofs.Ytakdnmakgblamaa
open Go.RowKit
/-- a slice's address under which the numbers lie -/
def SZ (w : World) (A : Option Addr) (zs : List Int) : Prop := ∀ k, k < zs.length → ∃ b o, A = some ⟨b, o, none⟩ ∧ b < w.heap.size ∧ w.cell? ⟨b, o + k, none⟩ = some (.int .i64 (zAt zs k))
def ZWF (zs : List Int) : Prop := ∀ k, k < zs.length → -9223372036854775808 ≤ zAt zs k ∧ zAt zs k ≤ 9223372036854775807
theorem SZ.below {w w' : World} {A : Option Addr} {l : List Int} (h : SZ w A l) (hb : Below w.heap.size w w') : SZ w' A l := by
  intro k hk
  obtain ⟨b, o, rfl, hlt, h1⟩ := h k hk
  exact ⟨b, o, rfl, Nat.lt_of_lt_of_le hlt hb.size, (hb.cell (p := ⟨b, _, none⟩) hlt).trans h1⟩
theorem SZ.of_own {w : World} {base : Nat} {A : Option Addr} {c : Nat} {zs : List Int} (h : w.ownsRow base 2 1 (.slice A zs.length c) zs.length (icells zs)) : SZ w A zs := by
  intro k hk
  rcases h.2 with ⟨h', h0⟩ | ⟨g, cap, cur, h', hb, hg, _⟩
  · omega
  · simp only [Value.slice.injEq, true_and] at h'
    obtain ⟨rfl, rfl⟩ := h'
    exact ⟨g, 0, rfl, (Array.getElem?_eq_some_iff.1 hg).1, by rw [Nat.zero_add, h.cellAt k (by omega), icells_get zs k hk]⟩
def zupto (l : List Int) (k : Nat) : List Int := l.take k ++ List.replicate (l.length - k) 0
theorem zupto_length (l : List Int) (k : Nat) (h : k ≤ l.length) : (zupto l k).length = l.length := by simp [zupto]; omega
theorem zupto_set (l : List Int) (k : Nat) (h : k < l.length) : (zupto l k).set k (zAt l k) = zupto l (k + 1) := by
  have e1 : l.length - k = (l.length - (k + 1)) + 1 := by omega
  have e2 : zAt l k = l[k] := by simp [zAt, List.getD, h]
  rw [zupto, zupto, e1, List.replicate_succ, e2, List.take_succ_eq_append_getElem h, List.set_append_right _ _ (by simp; omega)]
  simp only [List.length_take, show k - min k l.length = 0 by omega, List.set_cons_zero, List.append_assoc, List.cons_append, List.nil_append]
theorem zupto_zero (l : List Int) : zupto l 0 = List.replicate l.length 0 := by simp [zupto]
theorem zupto_all (l : List Int) : zupto l l.length = l := by simp [zupto]
theorem icells_replicate (n : Nat) : icells (List.replicate n 0) = (madeCells #[.int .i64 0] n).toList := by
  apply List.ext_getElem?
  intro j
  by_cases hj : j < n
  · simp [icells, madeCells, hj, Nat.mod_one]
  · rw [List.getElem?_eq_none (by rw [icells_length]; simp; omega), List.getElem?_eq_none (by simp [madeCells]; omega)]
set_option maxRecDepth 20000 in
set_option maxHeartbeats 400000 in
theorem toInt64S_ex (A : Option Addr) (c : Nat) (l : List Int) (w : World) (hA : SZ w A l) (hn : l.length ≤ 1048576) :
    Calls Try.prog 55 #[.slice A l.length c] w fun e w' => ∃ g, e = .returned (.slice (some ⟨g, 0, none⟩) l.length l.length) ∧ w.heap.size ≤ g ∧ w'.ownsRow w.heap.size 2 1 (.slice (some ⟨g, 0, none⟩) l.length l.length) l.length (icells l) ∧ Below w.heap.size w w' := by
  obtain ⟨i0, hi, hz0, hz1, hz2⟩ := info_parts info2
  go_enter Try.func55, Try.ntmps55
  go_wp2_with (at_make; refine wpList_make_full _ rfl _ _ 33 rfl w.heap.size 2 i0 _ 1 Try.underlying33 hi hz0 hz1 _ _ _ _ l.length rfl rfl (by omega) (by omega) (by rw [hz2]; omega) (by unfold maxLen; omega) (by simp) ?_; intro w1 hown1 hgrow1)
  have hb0 : Below w.heap.size w w1 := (Below.refl _ _).grown hgrow1 (Nat.le_refl _) (fun j e => by cases e)
  clear hgrow1
  go_loopw [4] (fun i wr => ∃ k : Nat, k ≤ l.length ∧ i = .int .i64 k ∧ wr.ownsRow w.heap.size 2 1 (.slice (some ⟨w.heap.size, 0, none⟩) l.length l.length) l.length (icells (zupto l k)) ∧ Below w.heap.size w wr)
    (fun i _ => l.length - (intOf i).toNat)
  case atStart =>
    refine ⟨0, Nat.zero_le _, rfl, ?_, hb0⟩
    rw [zupto_zero, icells_replicate]
    rw [Nat.mul_one] at hown1
    exact hown1
  case round =>
    obtain ⟨k, hk, rfl, hown, hb⟩ := hrel
    by_cases hlt : k < l.length
    · obtain ⟨b, o, rfl, hbb, c1⟩ := hA k hlt
      have d1 := (hb.cell (p := ⟨b, o + k, none⟩) hbb).trans c1
      have hs := hb.size
      have f1 := (hown.cellAt k (by omega)).trans (icells_get _ k (by rw [zupto_length l k hk]; exact hlt))
      have f3 := hown.frozenAt k
      have HZ := hide (zupto_set l k hlt)
      clear c1 hA hown1 hb0
      go_wp2
      go_roundw
      case rel => exact ⟨k + 1, hlt, by go_num, by rw [← HZ.out, ← icells_set]; exact (hown.stored k _).1, hb.setCell (p := ⟨w.heap.size, _, none⟩) (Nat.le_refl _) _⟩
      case measure => simp [intOf]; omega
    · obtain rfl : k = l.length := by omega
      go_wp2
      go_ret
      exact ⟨_, rfl, Nat.le_refl _, by rw [zupto_all] at hown; exact hown, hb⟩
theorem eqInt64S_self (A C : Option Addr) (c d : Nat) (zs : List Int) (w : World) (hA : SI w w.heap.size A zs) (hC : SI w w.heap.size C zs) (hn : zs.length ≤ 1048576) :
    Calls Try.prog 30 #[.slice A zs.length c, .slice C zs.length d] w (Says true w) := eqInt64S_any A C c d zs w.heap.size w hA hC (Nat.le_refl _) hn
theorem szInt64S_small (A : Option Addr) (n c : Nat) (x : Int) (h0 : 0 ≤ x) (h1 : x ≤ 1048576) (hm : n ≤ maxLen) (hs : (n : Int) ≤ x) (w : World) :
    Calls Try.prog 51 #[.slice A n c, .int .i64 x] w fun e w' => e = .returned (.int .i64 (x - n)) ∧ w = w' := by
  unfold maxLen at hm
  go_enter Try.func51, Try.ntmps51
  go_wp2
  all_goals go_ret
  all_goals exact ⟨ret_int (by omega), rfl⟩
theorem szInt64S_big (A : Option Addr) (n c : Nat) (x : Int) (h0 : 0 ≤ x) (h1 : x ≤ 1048576) (hm : n ≤ maxLen) (hs : x < (n : Int)) (w : World) :
    Calls Try.prog 51 #[.slice A n c, .int .i64 x] w fun e w' => e = .returned (.int .i64 (-1)) ∧ w = w' := by
  unfold maxLen at hm
  go_enter Try.func51, Try.ntmps51
  go_wp2
  all_goals go_ret
  all_goals exact ⟨ret_int (by omega), rfl⟩
end Go.Proofs.Ytakdnmakgblamaa
