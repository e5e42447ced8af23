import Derived.Test.YtnngbnhdcknfnaaPsh
import Derived.Test.YtnngbnhdcknfnaaSkt
import Derived.Test.YtnngbnhdcknfnaaSzi
import Derived.Test.YtnngbnhdcknfnaaMks
namespace Go.Proofs.Ytnngbnhdcknfnaa
open Go.RowKit
/-- where the section k begins, the gap behind the one before it counted -/
def pkS (zs : List Int) (k : Nat) : Int := ((List.range k).map (zAt zs)).sum
theorem pkS_succ (zs : List Int) (k : Nat) : pkS zs (k + 1) = pkS zs k + zAt zs k := by simp [pkS, List.range_succ, List.sum_append]
def pkF (g : Int) (zs : List Int) (k : Nat) : Int := pkS zs k + g * k
theorem pkF_succ (g : Int) (zs : List Int) (k : Nat) : pkF g zs (k + 1) = pkF g zs k + (zAt zs k + g) := by
  unfold pkF
  rw [pkS_succ, show ((k + 1 : Nat) : Int) = (k : Int) + 1 by omega, Int.mul_add, Int.mul_one]
  omega
theorem pkF_zero (g : Int) (zs : List Int) : pkF g zs 0 = 0 := by simp [pkF, pkS]
/-- where the sections ahead of k end -/
def pkP (g : Int) (zs : List Int) (k : Nat) : Int := if k = 0 then 0 else pkF g zs k - g
theorem pkP_zero (g : Int) (zs : List Int) : pkP g zs 0 = 0 := rfl
theorem pkP_succ (g : Int) (zs : List Int) (k : Nat) : pkP g zs (k + 1) = pkF g zs k + zAt zs k := by
  unfold pkP
  rw [if_neg (by omega), pkF_succ]
  omega
theorem pkP_pos (g : Int) (zs : List Int) (k : Nat) (h : 0 < k) : pkP g zs k + g = pkF g zs k := by
  unfold pkP
  rw [if_neg (by omega)]
  omega
def pkL (g : Int) (zs : List Int) (k : Nat) : List (Int × Int) := (List.range k).map fun i => (pkF g zs i, zAt zs i)
theorem pkL_succ (g : Int) (zs : List Int) (k : Nat) : pkL g zs (k + 1) = pkL g zs k ++ [(pkF g zs k, zAt zs k)] := by simp [pkL, List.range_succ]
theorem pkL_len (g : Int) (zs : List Int) (k : Nat) : (pkL g zs k).length = k := by simp [pkL]
/-- the first k lengths are in range, and there are not too many, and the gap is in range -/
def pkO (g : Int) (zs : List Int) (k : Nat) : Bool := decide (zs.length ≤ 12) && inB g 0 96 && (List.range k).all fun i => inB (zAt zs i) 1 96
theorem pkO_succ (g : Int) (zs : List Int) (k : Nat) : pkO g zs (k + 1) = (pkO g zs k && inB (zAt zs k) 1 96) := by simp [pkO, List.range_succ, Bool.and_assoc]
theorem pkO_no {g : Int} {zs : List Int} {k n : Nat} (h : pkO g zs k = false) (hk : k ≤ n) : pkO g zs n = false := by
  induction n with
  | zero => obtain rfl : k = 0 := by omega
            exact h
  | succ n ih =>
    rcases Nat.lt_or_ge n k with h1 | h1
    · obtain rfl : k = n + 1 := by omega
      exact h
    · rw [pkO_succ, ih h1]; rfl
def pkC (s : Int) (l : List (Int × Int)) (zs : List Int) (g : Int) : Int := if frB s l then (if pkO g zs zs.length then (if s < pkP g zs zs.length then 3 else 0) else 2) else 1
def pkV (s : Int) (l : List (Int × Int)) (zs : List Int) (g : Int) : List (Int × Int) := if pkC s l zs g = 0 then pkL g zs zs.length else []
theorem pkV_len (s : Int) (l : List (Int × Int)) (zs : List Int) (g : Int) (h : zs.length ≤ 1048576) : (pkV s l zs g).length ≤ 1048576 := by
  unfold pkV
  split
  · rw [pkL_len]; exact h
  · simp
/-- what the lengths and the gap in range give -/
def PkG (g : Int) (zs : List Int) : Prop := zs.length ≤ 12 ∧ (0 ≤ g ∧ g ≤ 96) ∧ ∀ i, i < zs.length → 1 ≤ zAt zs i ∧ zAt zs i ≤ 96
theorem pkO_all {g : Int} {zs : List Int} (h : pkO g zs zs.length = true) : PkG g zs := by
  simp only [pkO, Bool.and_eq_true, decide_eq_true_eq, inB, List.all_eq_true, List.mem_range] at h
  exact ⟨h.1.1, h.1.2, h.2⟩
theorem pkF_in {g : Int} {zs : List Int} (h : PkG g zs) : ∀ k, k ≤ zs.length → 0 ≤ pkF g zs k ∧ pkF g zs k ≤ 192 * k := by
  intro k
  induction k with
  | zero => intro _; rw [pkF_zero]; simp
  | succ k ih =>
    intro hk
    have h1 := ih (by omega)
    have h2 := h.2.2 k (by omega)
    have h3 := h.2.1
    rw [pkF_succ]
    omega
theorem pkP_mono {g : Int} {zs : List Int} (h : PkG g zs) (k n : Nat) (hk : k ≤ n) (hn : n ≤ zs.length) : pkP g zs k ≤ pkP g zs n := by
  induction n with
  | zero => obtain rfl : k = 0 := by omega
            exact Int.le_refl _
  | succ n ih =>
    rcases Nat.lt_or_ge n k with h1 | h1
    · obtain rfl : k = n + 1 := by omega
      exact Int.le_refl _
    · have h2 := ih h1 (by omega)
      have h3 := h.2.2 n (by omega)
      have h4 := pkF_in h n (by omega)
      have h5 := h.2.1
      rw [pkP_succ]
      by_cases h0 : n = 0
      · subst h0
        rw [pkP_zero] at h2
        omega
      · have h6 := pkP_pos g zs n (by omega)
        omega
/-- sections of the call's own, and a code -/
def OwnS (w : World) (l : List (Int × Int)) (cc : Int) (e : Ending) (w' : World) : Prop := ∃ (C : Option Addr) (q : Nat), e = .returned (.tuple #[.slice C l.length q, .int .i64 cc]) ∧ w'.ownsRow w.heap.size 90 2 (.slice C l.length q) l.length (secC l) ∧ Below w.heap.size w w'
theorem ownS_nil {w w1 : World} (C : Option Addr) (q : Nat) (cc : Int) (h : w1.ownsRow w.heap.size 90 2 (.slice C 0 q) 0 []) (hb : Below w.heap.size w w1) : OwnS w [] cc (.returned (.tuple #[.slice C 0 q, .int .i64 cc])) w1 := ⟨C, q, rfl, h, hb⟩
theorem l04Gap_any (g : Int) (w : World) : Calls Try.prog 77 #[.int .i64 g] w fun e w' => e = .returned (.bool (inB g 0 96)) ∧ w = w' := by
  go_enter Try.func77, Try.ntmps77
  go_wp2_with (go_at_call 61; refine (l00In_any _ _ _ _).mono ?_; rintro e w' ⟨rfl, rfl⟩)
  go_ret
  exact ⟨rfl, rfl⟩

set_option maxRecDepth 20000 in
set_option maxHeartbeats 4000000 in
theorem specPackSections_any (s : Int) (A : Option Addr) (c : Nat) (l : List (Int × Int)) (B : Option Addr) (d : Nat) (zs : List Int) (g : Int) (w : World) (hA : HA w A l) (hn : l.length ≤ 1048576) (hwf : HWF l) (hs : -32768 ≤ s ∧ s ≤ 32767) (hB : SZ w B zs) (hm : zs.length ≤ 1048576) (hzwf : ZWF zs) :
    Calls Try.prog 45 #[.agg #[.int .i16 s, .slice A l.length c], .slice B zs.length d, .int .i64 g] w (OwnS w (pkV s l zs g) (pkC s l zs g)) := by
  obtain ⟨i0, hi, hz0, hz1, hz2⟩ := info_parts info90
  obtain ⟨X, hX⟩ : ∃ X, X = w.alloc (.cells #[.int .i16 s, .slice A l.length c] 36) := ⟨_, rfl⟩
  have hb0 : Below w.heap.size w X := by rw [hX]; exact (Below.refl _ _).alloc (Nat.le_refl _) _
  have F0 : FP X w.heap.size s A l.length c := by
    have h : Bk X w.heap.size 36 #[.int .i16 s, .slice A l.length c] := by rw [hX]; exact Bk.new _ _ _ rfl
    exact ⟨h.cell rfl, h.cell rfl⟩
  go_enter Try.func45, Try.ntmps45
  go_upto_region 1 with fail
  rw [← hX]
  clear hX
  go_wp2_with fail
  refine (l02Frame_any w.heap.size s A c l X F0 (hA.below hb0) hn hwf hs).mono ?_
  rintro e w1 ⟨rfl, hb1⟩
  have b1 := step_below hb1 hb0
  have F1 := F0.keep hb1
  have B1 := hB.below b1
  cases hp : frB s l
  · have hcc : pkC s l zs g = 1 := by simp [pkC, hp]
    have HX := hide hcc
    have HY := hide (show pkV s l zs g = [] by simp [pkV, hcc])
    clear hp hcc
    go_wp2
    go_ret2
    rw [HX.out, HY.out]
    exact ownS_nil (some ⟨w1.heap.size, 0, none⟩) 0 1 (own_emptyT _ _ b1.size) (b1.alloc b1.size _)
  have hfr := frB_all hp
  obtain ⟨hs2, hs3⟩ := hfr.1
  have hpk : pkC s l zs g = if pkO g zs zs.length then (if s < pkP g zs zs.length then 3 else 0) else 2 := by simp [pkC, hp]
  have HP := hide hpk
  clear hpk hp hfr
  have b1' := b1
  have key : ∀ o0 : Bool, pkO g zs 0 = o0 → True := fun _ _ => trivial
  clear key
  by_cases h12 : zs.length ≤ 12
  · have h12' : (zs.length : Int) ≤ 12 := by omega
    have HO := hide (show pkO g zs 0 = inB g 0 96 by simp [pkO, h12])
    go_wp2_with (go_at_call 77; refine (l04Gap_any _ _).mono ?_; rintro e w' ⟨rfl, rfl⟩)
    obtain ⟨o0, ho0⟩ : ∃ o0, o0 = inB g 0 96 := ⟨_, rfl⟩
    rw [← ho0] at HO ⊢
    clear ho0
    go_loopw [8, 9] (fun ok i wr => ∃ k : Nat, k ≤ zs.length ∧ i = .int .i64 k ∧ ok = .bool (pkO g zs k) ∧ w1 = wr)
      (fun _ i _ => zs.length - (intOf i).toNat)
    case atStart => exact ⟨0, Nat.zero_le _, rfl, by rw [HO.out], rfl⟩
    case round =>
      obtain ⟨k, hk, rfl, rfl, rfl⟩ := hrel
      cases hok : pkO g zs k
      · have hno := pkO_no hok hk
        have hcc : pkC s l zs g = 2 := by rw [HP.out, hno]; rfl
        have HX := hide hcc
        have HY := hide (show pkV s l zs g = [] by simp [pkV, hcc])
        clear hcc hno hok
        by_cases hlt : k < zs.length
        · go_wp2
          go_ret2
          rw [HX.out, HY.out]
          exact ownS_nil (some ⟨w1.heap.size, 0, none⟩) 0 2 (own_emptyT _ _ b1.size) (b1.alloc b1.size _)
        · obtain rfl : k = zs.length := by omega
          go_wp2
          go_ret2
          rw [HX.out, HY.out]
          exact ownS_nil (some ⟨w1.heap.size, 0, none⟩) 0 2 (own_emptyT _ _ b1.size) (b1.alloc b1.size _)
      by_cases hlt : k < zs.length
      · have HS := hide (show pkO g zs (k + 1) = inB (zAt zs k) 1 96 by rw [pkO_succ, hok]; rfl)
        obtain ⟨b', p, rfl, hbb, d1⟩ := B1 k hlt
        have hzr := hzwf k hlt
        clear hok
        go_wp2_with (go_at_call 61; refine (l00In_any _ _ _ _).mono ?_; rintro e w' ⟨rfl, rfl⟩)
        go_roundw
        case rel => exact ⟨k + 1, hlt, by go_num, by rw [HS.out], trivial⟩
        case measure => simp [intOf]; omega
      · obtain rfl : k = zs.length := by omega
        have hall := pkO_all hok
        have HF := hide (pkF_in hall)
        have HM := hide (pkP_mono hall)
        have HP2 := hide (show pkC s l zs g = if s < pkP g zs zs.length then 3 else 0 by rw [HP.out, hok]; rfl)
        obtain ⟨_, ⟨hg1, hg2⟩, hzz⟩ := hall
        have HZ := hide hzz
        clear hok hzz HO HP
        have hal : Below w1.heap.size w1 (w1.alloc (.cells #[] 90)) := (Below.refl _ _).alloc (Nat.le_refl _) _
        go_wp2_with fail
        go_loopw [10, 11, 12] (fun v f i wr => ∃ k : Nat, k ≤ zs.length ∧ i = .int .i64 k ∧ f = .int .i64 (pkP g zs k) ∧ wr.ownsRow w1.heap.size 90 2 v (pkL g zs k).length (secC (pkL g zs k)) ∧ Below w1.heap.size w1 wr)
          (fun _ _ i _ => zs.length - (intOf i).toNat)
        case atStart => exact ⟨0, Nat.zero_le _, rfl, rfl, own_emptyT _ _ (Nat.le_refl _), hal⟩
        case round =>
          obtain ⟨k, hk, rfl, rfl, hown, hb⟩ := hrel
          obtain ⟨A', c', rfl⟩ := own_shape hown
          by_cases hlt : k < zs.length
          · obtain ⟨b', p, rfl, hbb, d1⟩ := B1 k hlt
            have d2 := (hb.cell (p := ⟨b', p + k, none⟩) hbb).trans d1
            have hzr := HZ.out k hlt
            obtain ⟨z1, z2⟩ := hzr
            obtain ⟨f1, f2⟩ := HF.out k hk
            have HS := hide (pkP_succ g zs k)
            have HL := hide (pkL_succ g zs k)
            have hlen := pkL_len g zs k
            have hsz := hb.size
            obtain ⟨fr, hfr⟩ : ∃ fr, fr = pkF g zs k := ⟨_, rfl⟩
            obtain ⟨z, hz⟩ : ∃ z, z = zAt zs k := ⟨_, rfl⟩
            rw [← hfr] at f1 f2 HS HL
            rw [← hz] at z1 z2 HS HL d1 d2
            have hw1 : IntKind.i16.wrap fr = fr := by simp [IntKind.wrap, IntKind.signed, IntKind.bits]; omega
            have hw2 : IntKind.i16.wrap z = z := by simp [IntKind.wrap, IntKind.signed, IntKind.bits]; omega
            have own3 := hown.alloc (.cells #[.int .i16 fr, .int .i16 z] 90)
            have hnew := cell_two_new' wr (.int .i16 fr) (.int .i16 z) 90
            by_cases hk0 : 0 < k
            · have HQ := hide (pkP_pos g zs k hk0)
              rw [← hfr] at HQ
              obtain ⟨pp, hpp⟩ : ∃ pp, pp = pkP g zs k := ⟨_, rfl⟩
              rw [← hpp] at HQ ⊢
              have hpg : pp + g = fr := HQ.out
              have hwp : IntKind.i64.wrap (pp + g) = fr := by rw [hpg]; exact IntWalk.i64_in _ (by omega)
              clear hpg hpp hfr hz d1 HQ
              have hk1 : (0 : Int) < (k : Int) := by omega
              go_wp2_with (at_builtin; refine wpList_append_own _ rfl _ _ 38 rfl w1.heap.size 90 i0 (.agg #[.int .i16 0, .int .i16 0]) 2 4 Try.underlying38 hi hz0 hz1 hz2 rfl (by decide) _ _ _ rfl own3 ⟨wr.heap.size, 0, none⟩ 1 1 [.int .i16 fr, .int .i16 z] rfl rfl hnew (fun x hx => by simp at hx; rcases hx with rfl | rfl <;> rfl) (by unfold maxLen; omega) (by omega) (by simp; have := hb.size; omega) ?_; intro v' w3 hown3 hgrow3 hnil3; have hb3 := (hb.alloc hb.size (.cells #[.int .i16 fr, .int .i16 z] 90)).grown hgrow3 (by simp; have := hb.size; omega) (fun j hj => (hown.lt j hj).1); have d3 := (hb3.cell (p := ⟨b', p + k, none⟩) hbb).trans (show w1.cell? ⟨b', p + k, none⟩ = some (.int .i64 z) from by have h0 := hb.cell (p := ⟨b', p + k, none⟩) hbb; rw [← h0]; exact d2))
              go_roundw
              case rel => exact ⟨k + 1, hlt, by go_num, by rw [HS.out], by rw [HL.out, List.length_append, secC_append]; exact hown3, hb3⟩
              case measure => simp [intOf]; omega
            · obtain rfl : k = 0 := by omega
              have hfr0 : fr = 0 := by rw [hfr, pkF_zero]
              subst hfr0
              rw [pkP_zero]
              simp only [Nat.add_zero] at d2
              clear hfr hz d1
              go_wp2_with (at_builtin; refine wpList_append_own _ rfl _ _ 38 rfl w1.heap.size 90 i0 (.agg #[.int .i16 0, .int .i16 0]) 2 4 Try.underlying38 hi hz0 hz1 hz2 rfl (by decide) _ _ _ rfl own3 ⟨wr.heap.size, 0, none⟩ 1 1 [.int .i16 0, .int .i16 z] rfl rfl hnew (fun x hx => by simp at hx; rcases hx with rfl | rfl <;> rfl) (by unfold maxLen; omega) (by omega) (by simp; have := hb.size; omega) ?_; intro v' w3 hown3 hgrow3 hnil3; have hb3 := (hb.alloc hb.size (.cells #[.int .i16 0, .int .i16 z] 90)).grown hgrow3 (by simp; have := hb.size; omega) (fun j hj => (hown.lt j hj).1); have d3 := (hb3.cell (p := ⟨b', p, none⟩) hbb).trans (show w1.cell? ⟨b', p, none⟩ = some (.int .i64 z) from by have h0 := hb.cell (p := ⟨b', p, none⟩) hbb; rw [← h0]; exact d2))
              go_roundw
              case rel => exact ⟨0 + 1, hlt, by go_num, by rw [HS.out, Int.zero_add], by rw [HL.out, List.length_append, secC_append]; exact hown3, hb3⟩
              case measure => simp [intOf]; omega
          · obtain rfl : k = zs.length := by omega
            have g0 := (F1.keep hb).1
            have hP := HF.out zs.length (Nat.le_refl _)
            have hP2 := HM.out 0 zs.length (Nat.zero_le _) (Nat.le_refl _)
            by_cases hgt : s < pkP g zs zs.length
            · have hcc : pkC s l zs g = 3 := by rw [HP2.out, if_pos hgt]
              have HX := hide hcc
              have HY := hide (show pkV s l zs g = [] by simp [pkV, hcc])
              clear hcc
              go_wp2
              go_ret2
              rw [HX.out, HY.out]
              exact ownS_nil (some ⟨wr.heap.size, 0, none⟩) 0 3 (own_emptyT _ _ (Nat.le_trans b1.size hb.size)) ((step_below hb b1).alloc (Nat.le_trans b1.size hb.size) _)
            · have hcc : pkC s l zs g = 0 := by rw [HP2.out, if_neg hgt]
              have HX := hide hcc
              have HY := hide (show pkV s l zs g = pkL g zs zs.length by simp [pkV, hcc])
              clear hcc
              go_wp2
              go_ret2
              rw [HX.out, HY.out]
              exact ⟨A', c', rfl, own_base hown b1.size, step_below hb b1⟩
  · have hcc : pkC s l zs g = 2 := by rw [HP.out]; simp [pkO, h12]
    have HX := hide hcc
    have HY := hide (show pkV s l zs g = [] by simp [pkV, hcc])
    clear hcc HP
    go_wp2_with fail
    go_loopw [8, 9] (fun ok i wr => i = .int .i64 0 ∧ ok = .bool false ∧ w1 = wr)
      (fun _ i _ => 0)
    case atStart => exact ⟨rfl, rfl, rfl⟩
    case round =>
      obtain ⟨rfl, rfl, rfl⟩ := hrel
      go_wp2
      go_ret2
      rw [HX.out, HY.out]
      exact ownS_nil (some ⟨w1.heap.size, 0, none⟩) 0 2 (own_emptyT _ _ b1.size) (b1.alloc b1.size _)
end Go.Proofs.Ytnngbnhdcknfnaa
