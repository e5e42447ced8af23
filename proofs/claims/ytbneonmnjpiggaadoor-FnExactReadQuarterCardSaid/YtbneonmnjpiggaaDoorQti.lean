import Derived.Test.YtbneonmnjpiggaaDoorQts
import Derived.Test.YtbneonmnjpiggaaDoorSlV
import Derived.Lib.Join
import Derived.Deep.AppendLies
namespace Go.Proofs.YtbneonmnjpiggaaDoor
open Go.RowKit
theorem clockHour_any (k : Nat) (w : World) (hk : k < 48) : Calls Tryd.prog 19 #[.int .i64 k] w fun e w' => e = .returned (.int .i64 (whH k)) ∧ w = w' := by
  by_cases h : k < 4
  · have HW := hide (show whH k = 12 by rw [whH, if_pos h])
    have h1 : (k : Int) < 4 := by omega
    go_enter Tryd.func19, Tryd.ntmps19
    go_wp2
    go_ret
    exact ⟨by rw [HW.out]; rfl, rfl⟩
  · obtain ⟨H, hH⟩ : ∃ H : Nat, H = k / 4 := ⟨_, rfl⟩
    have HW := hide (show whH k = H by rw [whH, if_neg h, hH])
    have h1 : ¬ (k : Int) < 4 := by omega
    have h2 : (k : Int) / 4 = (H : Int) := by omega
    have h3 : (k : Int).tdiv 4 = (H : Int) := by rw [Int.tdiv_eq_ediv_of_nonneg (by omega)]; exact h2
    have h4 : IntKind.i64.wrap (H : Int) = (H : Int) := IntWalk.i64_in _ (by omega)
    clear hH
    go_enter Tryd.func19, Tryd.ntmps19
    go_wp2
    go_ret
    exact ⟨by rw [HW.out]; rfl, rfl⟩
theorem clockHours_any (k : Nat) (w : World) (hk : k < 48) : Calls Tryd.prog 13 #[.int .i64 k] w fun e w' => e = .returned (.string ⟨(Lib.decDigits (whH k)).toArray⟩) ∧ w = w' := by
  have hh := whH_lt hk
  have KH := fun W => clockHour_any k W hk
  obtain ⟨h, hh'⟩ : ∃ h, h = whH k := ⟨_, rfl⟩
  rw [← hh'] at KH ⊢
  have KF := fun W => Tryd.strconv_FormatInt_10_small h (by omega) W
  clear hh hh'
  go_enter Tryd.func13, Tryd.ntmps13
  go_wp2_with (first | (go_at_call 19; refine (KH _).mono ?_; rintro e w' ⟨rfl, rfl⟩) | (go_at_call 18; refine (KF _).mono ?_; rintro e w' ⟨rfl, rfl⟩))
  go_ret
  exact ⟨rfl, rfl⟩
def MinW (w : World) : Prop := ∀ j, j < 4 → w.cell? ⟨0, j, none⟩ = some (.string ⟨(miT.getD j []).toArray⟩)
theorem MinW.below {w w' : World} (h : MinW w) (hb : Below w.heap.size w w') : MinW w' := fun j hj => (hb.cell (p := ⟨_, j, none⟩) (World.block_lt_of_cell? w _ (h j hj))).trans (h j hj)
theorem clockMinutes_any (k : Nat) (w : World) (hT : MinW w) : Calls Tryd.prog 14 #[.int .i64 k] w fun e w' => e = .returned (.string ⟨(miT.getD (k % 4) []).toArray⟩) ∧ w = w' := by
  obtain ⟨r, hr'⟩ : ∃ r : Nat, r = k % 4 := ⟨_, rfl⟩
  have hr4 : r < 4 := by omega
  have q3 : (k : Int) % 4 = (r : Int) := by omega
  have q4 : (k : Int).tmod 4 = (r : Int) := by rw [Int.tmod_eq_emod_of_nonneg (by omega)]; exact q3
  have q6 : IntKind.i64.wrap (r : Int) = (r : Int) := IntWalk.i64_in _ (by omega)
  have qi1 : (0 : Int) ≤ (r : Int) := by omega
  have qi2 : (r : Int) < 4 := by omega
  have c1 := hT r hr4
  rw [← hr']
  obtain ⟨z, hz⟩ : ∃ z : ByteArray, ⟨(miT.getD r []).toArray⟩ = z := ⟨_, rfl⟩
  rw [hz] at c1 ⊢
  clear hz hr' hT
  go_enter Tryd.func14, Tryd.ntmps14
  go_wp2
  go_ret
  exact ⟨rfl, rfl⟩
theorem info9 : (Tryd.prog.info? 9).map (fun i => (i.zero, i.size, i.bytes)) = some (some (.string ⟨#[]⟩), 1, 16) := by kernel_rfl
/-- the two parts of a quarter's text -/
def ptS (k : Nat) : List ByteArray := [⟨(Lib.decDigits (whH k)).toArray⟩, ⟨(miT.getD (k % 4) []).toArray⟩]
def strs (l : List ByteArray) : List Value := l.map .string
theorem own_strs {w : World} {base n : Nat} {g : Option Addr} {c : Nat} {l : List ByteArray} (h : w.ownsRow base 9 1 (.slice g n c) n (strs l)) (hn : n ≠ 0) : ∃ b, g = some ⟨b, 0, none⟩ ∧ b < w.heap.size ∧ n ≤ c ∧ ∀ (j : Nat) x, l[j]? = some x → w.cell? ⟨b, 0 + j, none⟩ = some (.string x) := by
  rcases h.2 with ⟨_, h0⟩ | ⟨b, cap, cur, hv, hb, hc, hcap, _, hsz, htk⟩
  · exact absurd h0 hn
  · cases hv
    refine ⟨b, rfl, (Array.getElem?_eq_some_iff.1 hc).1, hcap, fun j x hx => ?_⟩
    rw [cell_of_row _ _ _ _ _ _ hc, Nat.zero_add, ← Array.getElem?_toList]
    have h1 : (strs l)[j]? = some (.string x) := by simp [strs, hx]
    rw [← htk] at h1
    rw [List.getElem?_take] at h1
    split at h1
    · exact h1
    · cases h1
theorem own_shapeT {w : World} {base : Nat} {e : TypeId} {size n : Nat} {v : Value} {xs : List Value} (h : w.ownsRow base e size v n xs) : ∃ A c, v = .slice A n c := by
  rcases h.2 with ⟨h', h0⟩ | ⟨g, cap, cur, h', _⟩
  · exact ⟨none, 0, by rw [h', h0]⟩
  · exact ⟨_, _, h'⟩
theorem join_pt (k : Nat) (hk : k < 48) : Lib.join ((ptS k).map (·.data.toList)) [58] = qtL k := by
  simp [Lib.join, ptS, qtL, List.intercalate]
theorem qtL_len {k : Nat} (hk : k < 48) : (qtL k).length ≤ 140737488355328 := by
  have h1 := dec_len (whH k)
  have h2 := whH_lt hk
  have h3 := miT_len (r := k % 4) (by omega)
  simp only [qtL, List.length_append, List.length_cons, h3]
  omega
set_option maxRecDepth 20000 in
set_option maxHeartbeats 4000000 in
theorem implQuarterText_any (x : Int) (w : World) (hT : MinW w) :
    Calls Tryd.prog 6 #[.int .i64 x] w fun e w' => e = .returned (.string (qtV x)) ∧ Below w.heap.size w w' := by
  obtain ⟨i0, hi, hz0, hz1, hz2⟩ := info_parts info9
  cases hx : inB x 0 47
  · have KI : ∀ W, Calls Tryd.prog 12 #[.int .i64 x] W fun e w' => e = .returned (.bool false) ∧ W = w' := fun W => by rw [← hx]; exact isQuarter_any x W
    have HV := hide (show qtV x = ⟨#[]⟩ by simp [qtV, hx])
    clear hx
    go_enter Tryd.func6, Tryd.ntmps6
    go_wp2_with (go_at_call 12; refine (KI _).mono ?_; rintro e w' ⟨rfl, rfl⟩)
    go_ret
    exact ⟨by rw [HV.out]; rfl, Below.refl _ _⟩
  have KI : ∀ W, Calls Tryd.prog 12 #[.int .i64 x] W fun e w' => e = .returned (.bool true) ∧ W = w' := fun W => by rw [← hx]; exact isQuarter_any x W
  have hr : 0 ≤ x ∧ x ≤ 47 := by simpa [inB] using hx
  obtain ⟨k, rfl⟩ := Int.eq_ofNat_of_zero_le hr.1
  have hk : k < 48 := by omega
  have HV := hide (show qtV (k : Int) = ⟨(qtL k).toArray⟩ by rw [qtV, if_pos hx, Int.toNat_natCast])
  clear hx
  obtain ⟨X, hX⟩ : ∃ X, X = w.alloc (.cells #[.func (.func 13) #[] #[], .func (.func 14) #[] #[]] 29) := ⟨_, rfl⟩
  have b0 : Below w.heap.size w X := by rw [hX]; exact (Below.refl _ _).alloc (Nat.le_refl _) _
  have hXB : X.heap[w.heap.size]? = some (.cells #[.func (.func 13) #[] #[], .func (.func 14) #[] #[]] 29 (0, 0)) := by rw [hX]; exact heap_alloc_new _ _
  have f0 := cell_of_row _ _ 0 _ _ _ hXB
  have f1 := cell_of_row _ _ 1 _ _ _ hXB
  simp at f0 f1
  have hTX := hT.below b0
  obtain ⟨s0, hs0⟩ : ∃ z : ByteArray, z = ⟨(Lib.decDigits (whH k)).toArray⟩ := ⟨_, rfl⟩
  obtain ⟨s1, hs1⟩ : ∃ z : ByteArray, z = ⟨(miT.getD (k % 4) []).toArray⟩ := ⟨_, rfl⟩
  have hjn : Lib.join (([s0, s1] : List ByteArray).map (·.data.toList)) [58] = qtL k := by rw [hs0, hs1]; exact join_pt k hk
  have hjl : (qtL k).length ≤ 140737488355328 := qtL_len hk
  have K0 : ∀ W, Calls Tryd.prog 13 #[.int .i64 k] W fun e w' => e = .returned (.string s0) ∧ W = w' := fun W => by rw [hs0]; exact clockHours_any k W hk
  have K1 : ∀ W, MinW W → Calls Tryd.prog 14 #[.int .i64 k] W fun e w' => e = .returned (.string s1) ∧ W = w' := fun W h => by rw [hs1]; exact clockMinutes_any k W h
  clear hs0 hs1 hr
  go_enter Tryd.func6, Tryd.ntmps6
  go_wp2_with (go_at_call 12; refine (KI _).mono ?_; rintro e w' ⟨rfl, rfl⟩)
  rw [← hX]
  clear hX hXB hT
  go_loopw [3, 5, 11] (fun v _ i wr => ∃ m : Nat, m ≤ 2 ∧ i = .int .i64 m ∧ wr.ownsRow X.heap.size 9 1 v m (strs (([s0, s1] : List ByteArray).take m)) ∧ Below X.heap.size X wr)
    (fun _ _ i _ => 2 - (intOf i).toNat)
  case atStart => exact ⟨0, Nat.zero_le _, rfl, ⟨rfl, Or.inl ⟨rfl, rfl⟩⟩, Below.refl _ _⟩
  case round =>
    obtain ⟨m, hm, rfl, hown, hb⟩ := hrel
    obtain ⟨A', c', rfl⟩ := own_shapeT hown
    have hTr := hTX.below hb
    have g0 := (hb.cell (p := ⟨w.heap.size, 0, none⟩) (World.block_lt_of_cell? _ _ f0)).trans f0
    have g1 := (hb.cell (p := ⟨w.heap.size, 1, none⟩) (World.block_lt_of_cell? _ _ f1)).trans f1
    have hc : m = 0 ∨ m = 1 ∨ m = 2 := by omega
    rcases hc with rfl | rfl | rfl
    · have hnew : ∀ j u, ([.string s0] : List Value)[j]? = some u → (wr.alloc (.cells #[.string s0] 9)).cell? ((⟨wr.heap.size, 0, none⟩ : Addr).add j) = some u := cell_one_new wr (.string s0) 9
      have own3 := hown.alloc (.cells #[.string s0] 9)
      go_wp2_with (first | (go_at_call 13; refine (K0 _).mono ?_; rintro e w' ⟨rfl, rfl⟩) | (at_builtin; refine wpList_append_own _ rfl _ _ 27 rfl X.heap.size 9 i0 (.string ⟨#[]⟩) 1 16 Tryd.underlying27 hi hz0 hz1 hz2 rfl (by decide) _ _ _ rfl own3 ⟨wr.heap.size, 0, none⟩ 1 1 [.string s0] rfl rfl hnew (fun x hx => by simp at hx; subst hx; rfl) (by unfold maxLen; omega) (by omega) (by simp; have := hb.size; omega) ?_; intro v' w3 hown3 hgrow3 hnil3))
      have hb3 := (hb.alloc hb.size (.cells #[.string s0] 9)).grown hgrow3 (by simp; have := hb.size; omega) (fun j hj => (hown.lt j hj).1)
      go_roundw
      case rel => exact ⟨1, by omega, rfl, hown3, hb3⟩
      case measure => simp [intOf]
    · have hnew : ∀ j u, ([.string s1] : List Value)[j]? = some u → (wr.alloc (.cells #[.string s1] 9)).cell? ((⟨wr.heap.size, 0, none⟩ : Addr).add j) = some u := cell_one_new wr (.string s1) 9
      have own3 := hown.alloc (.cells #[.string s1] 9)
      go_wp2_with (first | (go_at_call 14; refine (K1 _ hTr).mono ?_; rintro e w' ⟨rfl, rfl⟩) | (at_builtin; refine wpList_append_own _ rfl _ _ 27 rfl X.heap.size 9 i0 (.string ⟨#[]⟩) 1 16 Tryd.underlying27 hi hz0 hz1 hz2 rfl (by decide) _ _ _ rfl own3 ⟨wr.heap.size, 0, none⟩ 1 1 [.string s1] rfl rfl hnew (fun x hx => by simp at hx; subst hx; rfl) (by unfold maxLen; omega) (by omega) (by simp; have := hb.size; omega) ?_; intro v' w3 hown3 hgrow3 hnil3))
      have hb3 := (hb.alloc hb.size (.cells #[.string s1] 9)).grown hgrow3 (by simp; have := hb.size; omega) (fun j hj => (hown.lt j hj).1)
      go_roundw
      case rel => exact ⟨2, by omega, rfl, hown3, hb3⟩
      case measure => simp [intOf]
    · obtain ⟨b, rfl, hblt, hcap, hcl⟩ := own_strs hown (by omega)
      have KJ := fun W (hW : W = wr) => by
        subst hW
        exact Tryd.strings_Join b 0 c' [s0, s1] ⟨#[58]⟩ W (by simpa using hcl) hblt (by simp) hcap (by rw [show (⟨#[58]⟩ : ByteArray).data.toList = [58] from rfl, hjn]; exact hjl)
      rw [show (⟨#[58]⟩ : ByteArray).data.toList = [58] from rfl, hjn] at KJ
      go_wp2_with (go_at_call 15; refine (KJ _ rfl).mono ?_; rintro e w' ⟨rfl, hbj⟩)
      go_ret
      exact ⟨by rw [HV.out]; rfl, step_below hbj (step_below hb b0)⟩
end Go.Proofs.YtbneonmnjpiggaaDoor
