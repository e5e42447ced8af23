import Derived.Test.YtnngbnhdcknfnaaOz
import Derived.Test.YtnngbnhdcknfnaaPsh
import Derived.Maps.AppendAt
namespace Go.Proofs.Ytnngbnhdcknfnaa
open Go.RowKit
theorem cell_two_new' (w : World) (x y : Value) (t : TypeId) : ∀ j u, ([x, y] : List Value)[j]? = some u → (w.alloc (.cells #[x, y] t)).cell? ((⟨w.heap.size, 0, none⟩ : Addr).add j) = some u := by
  intro j u hu
  rw [Addr.add_lit]
  match j, hu with
  | 0, hu => simp at hu; subst hu; simp [go_sem]
  | 1, hu => simp at hu; subst hu; simp [go_sem]
theorem own_emptyT {w : World} {base : Nat} (t : TypeId) (size : Nat) (h : base ≤ w.heap.size) : (w.alloc (.cells #[] t)).ownsRow base t size (.slice (some ⟨w.heap.size, 0, none⟩) 0 0) 0 [] :=
  ⟨by simp, Or.inr ⟨w.heap.size, 0, #[], rfl, h, heap_alloc_new _ _, by simp, by simp, by simp, by simp⟩⟩
/-- the strokes -/
def skN (p g : Int) (k : Nat) : List (Int × Int) := (List.range k).map fun (i : Nat) => ((i : Int) * g, p)
theorem skN_succ (p g : Int) (k : Nat) : skN p g (k + 1) = skN p g k ++ [((k : Int) * g, p)] := by simp [skN, List.range_succ]
theorem skN_len (p g : Int) (k : Nat) : (skN p g k).length = k := by simp [skN]
def skC (h p g : Int) : Int := if inB h 1 12 && inB p 0 47 && inB g 1 16 then 0 else 2
def skV (h p g : Int) : List (Int × Int) := if skC h p g = 0 then skN p g h.toNat else []
theorem skV_len (h p g : Int) : (skV h p g).length ≤ 1048576 := by
  unfold skV
  split
  · rename_i hc
    have : inB h 1 12 = true := by
      simp only [skC] at hc
      split at hc
      · rename_i hb; simp only [Bool.and_eq_true] at hb; exact hb.1.1
      · cases hc
    rw [skN_len]
    simp [inB] at this
    omega
  · simp
/-- a tune of the call's own, and a code -/
def OwnN (w : World) (l : List (Int × Int)) (cc : Int) (e : Ending) (w' : World) : Prop := ∃ (C : Option Addr) (q : Nat), e = .returned (.tuple #[.slice C l.length q, .int .i64 cc]) ∧ w'.ownsRow w.heap.size 94 2 (.slice C l.length q) l.length (cellsOf l) ∧ Below w.heap.size w w'
theorem l04Bell_any (p g : Int) (w : World) : Calls Try.prog 62 #[.int .i64 p, .int .i64 g] w fun e w' => e = .returned (.bool (inB p 0 47 && inB g 1 16)) ∧ w = w' := by
  cases h1 : inB p 0 47
  · have K1 : ∀ W, Calls Try.prog 61 #[.int .i64 p, .int .i64 0, .int .i64 47] W fun e w' => e = .returned (.bool false) ∧ W = w' := fun W => by rw [← h1]; exact l00In_any _ _ _ W
    clear h1
    go_enter Try.func62, Try.ntmps62
    go_wp2_with (go_at_call 61; with_reducible refine (K1 _).mono ?_; rintro e w' ⟨rfl, rfl⟩)
    go_ret
    exact ⟨rfl, rfl⟩
  · have K1 : ∀ W, Calls Try.prog 61 #[.int .i64 p, .int .i64 0, .int .i64 47] W fun e w' => e = .returned (.bool true) ∧ W = w' := fun W => by rw [← h1]; exact l00In_any _ _ _ W
    have K2 : ∀ W, Calls Try.prog 61 #[.int .i64 g, .int .i64 1, .int .i64 16] W fun e w' => e = .returned (.bool (inB g 1 16)) ∧ W = w' := fun W => l00In_any _ _ _ W
    clear h1
    go_enter Try.func62, Try.ntmps62
    go_wp2_with (first | (go_at_call 61; with_reducible refine (K1 _).mono ?_; rintro e w' ⟨rfl, rfl⟩) | (go_at_call 61; with_reducible refine (K2 _).mono ?_; rintro e w' ⟨rfl, rfl⟩))
    go_ret
    exact ⟨rfl, rfl⟩
set_option maxRecDepth 20000 in
set_option maxHeartbeats 2000000 in
theorem l04Strikes_any (h : Nat) (p g : Int) (w : World) (hh : 1 ≤ h ∧ h ≤ 12) (hp : 0 ≤ p ∧ p ≤ 47) (hg : 1 ≤ g ∧ g ≤ 16) :
    Calls Try.prog 63 #[.int .i64 h, .int .i64 p, .int .i64 g, .int .i64 0] w fun e w' => ∃ (C : Option Addr) (q : Nat), e = .returned (.slice C (skN p g h).length q) ∧ w'.ownsRow w.heap.size 94 2 (.slice C (skN p g h).length q) (skN p g h).length (cellsOf (skN p g h)) ∧ Below w.heap.size w w' := by
  obtain ⟨i0, hi, hz0, hz1, hz2⟩ := info_parts info94
  obtain ⟨h1, h2⟩ := hh
  obtain ⟨p1, p2⟩ := hp
  obtain ⟨g1, g2⟩ := hg
  have hal : Below w.heap.size w (w.alloc (.cells #[] 94)) := (Below.refl _ _).alloc (Nat.le_refl _) _
  go_enter Try.func63, Try.ntmps63
  go_wp2_with fail
  go_loopw [9, 10] (fun v i wr => ∃ k : Nat, k ≤ h ∧ i = .int .i64 k ∧ wr.ownsRow w.heap.size 94 2 v (skN p g k).length (cellsOf (skN p g k)) ∧ Below w.heap.size w wr)
    (fun _ i _ => h - (intOf i).toNat)
  case atStart => exact ⟨0, Nat.zero_le _, rfl, own_emptyT _ _ (Nat.le_refl _), hal⟩
  case round =>
    obtain ⟨k, hk, rfl, hown, hb⟩ := hrel
    obtain ⟨A', c', rfl⟩ := own_shape hown
    by_cases hlt : k < h
    · have own3 := hown.alloc (.cells #[.int .i16 ((k : Int) * g), .int .i8 p] 94)
      have hnew := cell_two_new' wr (.int .i16 ((k : Int) * g)) (.int .i8 p) 94
      have hlen := skN_len p g k
      have hkg1 : 0 ≤ (k : Int) * g := Int.mul_nonneg (by omega) (by omega)
      have hkg2 : (k : Int) * g ≤ 12 * 16 := Int.mul_le_mul (by omega) (by omega) (by omega) (by omega)
      have HKG := hide (skN_succ p g k)
      obtain ⟨z, hz⟩ : ∃ z, z = (k : Int) * g := ⟨_, rfl⟩
      have hwz : IntKind.i64.wrap ((k : Int) * g) = z := by rw [hz]; exact IntWalk.i64_in _ (by omega)
      rw [← hz] at own3 hnew hkg1 hkg2 HKG
      have HZ := hide hz
      clear hz
      have hw16 : IntKind.i16.wrap z = z := by simp [IntKind.wrap, IntKind.signed, IntKind.bits]; omega
      have hw8 : IntKind.i8.wrap p = p := by simp [IntKind.wrap, IntKind.signed, IntKind.bits]; omega
      go_wp2_with (at_builtin; refine wpList_append_own _ rfl _ _ 47 rfl w.heap.size 94 i0 (.agg #[.int .i16 0, .int .i8 0]) 2 4 Try.underlying47 hi hz0 hz1 hz2 rfl (by decide) _ _ _ rfl own3 ⟨wr.heap.size, 0, none⟩ 1 1 [.int .i16 (z), .int .i8 p] rfl rfl hnew (fun x hx => by simp at hx; rcases hx with rfl | rfl <;> rfl) (by unfold maxLen; omega) (by omega) (by simp; have := hb.size; omega) ?_; intro v' w3 hown3 hgrow3 hnil3)
      have hb3 := (hb.alloc hb.size (.cells #[.int .i16 z, .int .i8 p] 94)).grown hgrow3 (by simp; have := hb.size; omega) (fun j hj => (hown.lt j hj).1)
      go_roundw
      case rel => exact ⟨k + 1, hlt, by go_num, by rw [HKG.out, List.length_append, cellsOf_append]; exact hown3, hb3⟩
      case measure => simp [intOf]; omega
    · obtain rfl : k = h := by omega
      go_wp2
      go_ret
      exact ⟨A', c', rfl, hown, hb⟩
set_option maxRecDepth 20000 in
set_option maxHeartbeats 2000000 in
theorem specStrikeTune_any (h p g : Int) (w : World) :
    Calls Try.prog 23 #[.int .i64 h, .int .i64 p, .int .i64 g] w (OwnN w (skV h p g) (skC h p g)) := by
  cases h1 : inB h 1 12
  · have K1 : ∀ W, Calls Try.prog 61 #[.int .i64 h, .int .i64 1, .int .i64 12] W fun e w' => e = .returned (.bool false) ∧ W = w' := fun W => by rw [← h1]; exact l00In_any _ _ _ W
    have hcc : skC h p g = 2 := by simp [skC, h1]
    have HX := hide hcc
    have HY := hide (show skV h p g = [] by simp [skV, hcc])
    clear hcc h1
    go_enter Try.func23, Try.ntmps23
    go_wp2_with (go_at_call 61; with_reducible refine (K1 _).mono ?_; rintro e w' ⟨rfl, rfl⟩)
    go_ret2
    exact ⟨some ⟨w.heap.size, 0, none⟩, 0, by rw [HX.out, HY.out]; rfl, by rw [HY.out]; exact own_emptyT _ _ (Nat.le_refl _), (Below.refl _ _).alloc (Nat.le_refl _) _⟩
  have K1 : ∀ W, Calls Try.prog 61 #[.int .i64 h, .int .i64 1, .int .i64 12] W fun e w' => e = .returned (.bool true) ∧ W = w' := fun W => by rw [← h1]; exact l00In_any _ _ _ W
  cases h2 : inB p 0 47 && inB g 1 16
  · have K2 : ∀ W, Calls Try.prog 62 #[.int .i64 p, .int .i64 g] W fun e w' => e = .returned (.bool false) ∧ W = w' := fun W => by rw [← h2]; exact l04Bell_any _ _ W
    have hcc : skC h p g = 2 := by unfold skC; rw [Bool.and_assoc, h2, Bool.and_false]; rfl
    have HX := hide hcc
    have HY := hide (show skV h p g = [] by simp [skV, hcc])
    clear hcc h1 h2
    go_enter Try.func23, Try.ntmps23
    go_wp2_with (first | (go_at_call 61; with_reducible refine (K1 _).mono ?_; rintro e w' ⟨rfl, rfl⟩) | (go_at_call 62; refine (K2 _).mono ?_; rintro e w' ⟨rfl, rfl⟩))
    go_ret2
    exact ⟨some ⟨w.heap.size, 0, none⟩, 0, by rw [HX.out, HY.out]; rfl, by rw [HY.out]; exact own_emptyT _ _ (Nat.le_refl _), (Below.refl _ _).alloc (Nat.le_refl _) _⟩
  have K2 : ∀ W, Calls Try.prog 62 #[.int .i64 p, .int .i64 g] W fun e w' => e = .returned (.bool true) ∧ W = w' := fun W => by rw [← h2]; exact l04Bell_any _ _ W
  obtain ⟨k, hk⟩ : ∃ k : Nat, h = (k : Int) := ⟨h.toNat, by simp [inB] at h1; omega⟩
  subst hk
  have hcc : skC k p g = 0 := by unfold skC; rw [Bool.and_assoc, h2, h1]; rfl
  have HX := hide hcc
  have HY := hide (show skV k p g = skN p g k by simp [skV, hcc])
  have hb1 : 1 ≤ k ∧ k ≤ 12 := by simp [inB] at h1; omega
  have hb2 : (0 ≤ p ∧ p ≤ 47) ∧ (1 ≤ g ∧ g ≤ 16) := by simpa [inB] using h2
  clear hcc h1 h2
  go_enter Try.func23, Try.ntmps23
  go_wp2_with (first | (go_at_call 61; with_reducible refine (K1 _).mono ?_; rintro e w' ⟨rfl, rfl⟩) | (go_at_call 62; refine (K2 _).mono ?_; rintro e w' ⟨rfl, rfl⟩))
  refine (l04Strikes_any k p g _ hb1 hb2.1 hb2.2).mono ?_
  rintro e w2 ⟨C, q, rfl, own2, hb3⟩
  go_wp2
  go_ret2
  exact ⟨C, q, by rw [HX.out, HY.out]; rfl, by rw [HY.out]; exact own2, hb3⟩
set_option maxRecDepth 20000 in
set_option maxHeartbeats 2000000 in
theorem implStrikeTune_any (h p g : Int) (w : World) :
    Calls Try.prog 24 #[.int .i64 h, .int .i64 p, .int .i64 g] w (OwnN w (skV h p g) (skC h p g)) := by
  obtain ⟨i0, hi, hz0, hz1, hz2⟩ := info_parts info94
  cases h1 : inB h 1 12
  · have K1 : ∀ W, Calls Try.prog 64 #[.int .i64 h, .int .i64 1, .int .i64 12] W fun e w' => e = .returned (.bool false) ∧ W = w' := fun W => by rw [← h1]; exact within_any _ _ _ W
    have hcc : skC h p g = 2 := by simp [skC, h1]
    have HX := hide hcc
    have HY := hide (show skV h p g = [] by simp [skV, hcc])
    clear hcc h1
    go_enter Try.func24, Try.ntmps24
    go_wp2_with (first | (go_at_call 64; with_reducible refine (K1 _).mono ?_; rintro e w' ⟨rfl, rfl⟩))
    go_ret2
    exact ⟨none, 0, by rw [HX.out, HY.out]; rfl, by rw [HY.out]; exact ⟨rfl, Or.inl ⟨rfl, rfl⟩⟩, Below.refl _ _⟩
  have K1 : ∀ W, Calls Try.prog 64 #[.int .i64 h, .int .i64 1, .int .i64 12] W fun e w' => e = .returned (.bool true) ∧ W = w' := fun W => by rw [← h1]; exact within_any _ _ _ W
  cases h2 : inB p 0 47
  · have K2 : ∀ W, Calls Try.prog 64 #[.int .i64 p, .int .i64 0, .int .i64 47] W fun e w' => e = .returned (.bool false) ∧ W = w' := fun W => by rw [← h2]; exact within_any _ _ _ W
    have hcc : skC h p g = 2 := by simp [skC, h1, h2]
    have HX := hide hcc
    have HY := hide (show skV h p g = [] by simp [skV, hcc])
    clear hcc h1 h2
    go_enter Try.func24, Try.ntmps24
    go_wp2_with (first | (go_at_call 64; with_reducible refine (K1 _).mono ?_; rintro e w' ⟨rfl, rfl⟩) | (go_at_call 64; with_reducible refine (K2 _).mono ?_; rintro e w' ⟨rfl, rfl⟩))
    go_ret2
    exact ⟨none, 0, by rw [HX.out, HY.out]; rfl, by rw [HY.out]; exact ⟨rfl, Or.inl ⟨rfl, rfl⟩⟩, Below.refl _ _⟩
  have K2 : ∀ W, Calls Try.prog 64 #[.int .i64 p, .int .i64 0, .int .i64 47] W fun e w' => e = .returned (.bool true) ∧ W = w' := fun W => by rw [← h2]; exact within_any _ _ _ W
  cases h3 : inB g 1 16
  · have K3 : ∀ W, Calls Try.prog 64 #[.int .i64 g, .int .i64 1, .int .i64 16] W fun e w' => e = .returned (.bool false) ∧ W = w' := fun W => by rw [← h3]; exact within_any _ _ _ W
    have hcc : skC h p g = 2 := by simp [skC, h1, h2, h3]
    have HX := hide hcc
    have HY := hide (show skV h p g = [] by simp [skV, hcc])
    clear hcc h1 h2 h3
    go_enter Try.func24, Try.ntmps24
    go_wp2_with (first | (go_at_call 64; with_reducible refine (K1 _).mono ?_; rintro e w' ⟨rfl, rfl⟩) | (go_at_call 64; with_reducible refine (K2 _).mono ?_; rintro e w' ⟨rfl, rfl⟩) | (go_at_call 64; with_reducible refine (K3 _).mono ?_; rintro e w' ⟨rfl, rfl⟩))
    go_ret2
    exact ⟨none, 0, by rw [HX.out, HY.out]; rfl, by rw [HY.out]; exact ⟨rfl, Or.inl ⟨rfl, rfl⟩⟩, Below.refl _ _⟩
  have K3 : ∀ W, Calls Try.prog 64 #[.int .i64 g, .int .i64 1, .int .i64 16] W fun e w' => e = .returned (.bool true) ∧ W = w' := fun W => by rw [← h3]; exact within_any _ _ _ W
  have hcc : skC h p g = 0 := by simp [skC, h1, h2, h3]
  obtain ⟨k0, hk0⟩ : ∃ k : Nat, h = (k : Int) := ⟨h.toNat, by simp [inB] at h1; omega⟩
  subst hk0
  have HX := hide hcc
  have HY := hide (show skV k0 p g = skN p g k0 by simp [skV, hcc])
  have hb1 : 1 ≤ k0 ∧ k0 ≤ 12 := by simp [inB] at h1; omega
  obtain ⟨p1, p2⟩ : 0 ≤ p ∧ p ≤ 47 := by simpa [inB] using h2
  obtain ⟨g1, g2⟩ : 1 ≤ g ∧ g ≤ 16 := by simpa [inB] using h3
  clear hcc h1 h2 h3
  go_enter Try.func24, Try.ntmps24
  go_wp2_with (first | (go_at_call 64; with_reducible refine (K1 _).mono ?_; rintro e w' ⟨rfl, rfl⟩) | (go_at_call 64; with_reducible refine (K2 _).mono ?_; rintro e w' ⟨rfl, rfl⟩) | (go_at_call 64; with_reducible refine (K3 _).mono ?_; rintro e w' ⟨rfl, rfl⟩))
  clear K1 K2 K3
  go_loopw [8, 24] (fun v i wr => ∃ k : Nat, k ≤ k0 ∧ i = .int .i64 k ∧ wr.ownsRow w.heap.size 94 2 v (skN p g k).length (cellsOf (skN p g k)) ∧ Below w.heap.size w wr)
    (fun _ i _ => k0 - (intOf i).toNat)
  case atStart => exact ⟨0, Nat.zero_le _, rfl, ⟨rfl, Or.inl ⟨rfl, rfl⟩⟩, Below.refl _ _⟩
  case round =>
    obtain ⟨k, hk, rfl, hown, hb⟩ := hrel
    obtain ⟨A', c', rfl⟩ := own_shape hown
    by_cases hlt : k < k0
    · have own3 := hown.alloc (.cells #[.int .i16 ((k : Int) * g), .int .i8 p] 94)
      have hnew := cell_two_new' wr (.int .i16 ((k : Int) * g)) (.int .i8 p) 94
      have hlen := skN_len p g k
      have hkg1 : 0 ≤ (k : Int) * g := Int.mul_nonneg (by omega) (by omega)
      have hkg2 : (k : Int) * g ≤ 12 * 16 := Int.mul_le_mul (by omega) (by omega) (by omega) (by omega)
      have HKG := hide (skN_succ p g k)
      obtain ⟨z, hz⟩ : ∃ z, z = (k : Int) * g := ⟨_, rfl⟩
      have hwz : IntKind.i64.wrap ((k : Int) * g) = z := by rw [hz]; exact IntWalk.i64_in _ (by omega)
      rw [← hz] at own3 hnew hkg1 hkg2 HKG
      have HZ := hide hz
      clear hz
      have hw16 : IntKind.i16.wrap z = z := by simp [IntKind.wrap, IntKind.signed, IntKind.bits]; omega
      have hw8 : IntKind.i8.wrap p = p := by simp [IntKind.wrap, IntKind.signed, IntKind.bits]; omega
      go_wp2_with (at_builtin; refine wpList_append_own _ rfl _ _ 47 rfl w.heap.size 94 i0 (.agg #[.int .i16 0, .int .i8 0]) 2 4 Try.underlying47 hi hz0 hz1 hz2 rfl (by decide) _ _ _ rfl own3 ⟨wr.heap.size, 0, none⟩ 1 1 [.int .i16 (z), .int .i8 p] rfl rfl hnew (fun x hx => by simp at hx; rcases hx with rfl | rfl <;> rfl) (by unfold maxLen; omega) (by omega) (by simp; have := hb.size; omega) ?_; intro v' w3 hown3 hgrow3 hnil3)
      have hb3 := (hb.alloc hb.size (.cells #[.int .i16 z, .int .i8 p] 94)).grown hgrow3 (by simp; have := hb.size; omega) (fun j hj => (hown.lt j hj).1)
      go_roundw
      case rel => exact ⟨k + 1, hlt, by go_num, by rw [HKG.out, List.length_append, cellsOf_append]; exact hown3, hb3⟩
      case measure => simp [intOf]; omega
    · obtain rfl : k = k0 := by omega
      go_wp2
      go_ret2
      exact ⟨A', c', by rw [HX.out, HY.out]; rfl, by rw [HY.out]; exact hown, hb⟩
end Go.Proofs.Ytnngbnhdcknfnaa
