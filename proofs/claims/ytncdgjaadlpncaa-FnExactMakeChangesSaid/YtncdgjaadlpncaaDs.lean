import Derived.Test.YtncdgjaadlpncaaVdi
import Derived.Test.YtncdgjaadlpncaaSl
namespace Go.Proofs.Ytncdgjaadlpncaa
open Go.RowKit

/-- under an address lie drums, one behind the other -/
def DsA (w : World) (A : Option Addr) (ds : List (Nat → Int)) : Prop := ∀ k, k < ds.length → ∃ b o, A = some ⟨b, o, none⟩ ∧ b < w.heap.size ∧ w.rangeAt b (o + k * 96) (dv (ds.getD k fun _ => 0))
def DsWF (ds : List (Nat → Int)) : Prop := ∀ j, j < ds.length → DWF (ds.getD j (fun _ => 0))
theorem DsA.below {w w' : World} {A : Option Addr} {ds : List (Nat → Int)} (h : DsA w A ds) (hb : Below w.heap.size w w') : DsA w' A ds := fun k hk => by
  obtain ⟨b, o, h1, h2, h3⟩ := h k hk
  exact ⟨b, o, h1, Nat.lt_of_lt_of_le h2 hb.size, rangeAt_keep h3 h2 hb⟩
theorem infoDr : (Try.prog.info? 29).map (fun i => (i.zero, i.size, i.bytes)) = some (some (.agg za), 96, 384) := by kernel_rfl

theorem szDrumS_small (A : Option Addr) (n c : Nat) (l : Int) (h0 : 0 ≤ l) (h1 : l ≤ 1048576) (hn : n ≤ maxLen) (hs : (n : Int) ≤ l) (w : World) :
    Calls Try.prog 36 #[.slice A n c, .int .i64 l] w fun e w' => e = .returned (.int .i64 (l - n)) ∧ w = w' := by
  unfold maxLen at hn
  go_enter Try.func36, Try.ntmps36
  go_wp2
  all_goals go_ret
  all_goals exact ⟨ret_int (by omega), rfl⟩
theorem szDrumS_big (A : Option Addr) (n c : Nat) (l : Int) (h0 : 0 ≤ l) (h1 : l ≤ 1048576) (hn : n ≤ maxLen) (hs : l < (n : Int)) (w : World) :
    Calls Try.prog 36 #[.slice A n c, .int .i64 l] w fun e w' => e = .returned (.int .i64 (-1)) ∧ w = w' := by
  unfold maxLen at hn
  go_enter Try.func36, Try.ntmps36
  go_wp2
  all_goals go_ret
  all_goals exact ⟨ret_int (by omega), rfl⟩
theorem there_keep {w w' : World} {g o n : Nat} (h : w.there g o n) (hg : g < w.heap.size) (hb : Below w.heap.size w w') : w'.there g o n := fun j hj => by
  obtain ⟨h1, h2⟩ := h j hj
  refine ⟨by rw [hb.cell (p := ⟨g, o + j, none⟩) hg]; exact h1, ?_⟩
  simp only [World.frozen?, hb.block g hg] at h2 ⊢
  exact h2
theorem there_part {w : World} {g n o m : Nat} (h : w.there g 0 n) (hm : o + m ≤ n) : w.there g o m := fun j hj => by
  have := h (o + j) (by omega)
  rwa [Nat.zero_add] at this

set_option maxRecDepth 20000 in
set_option maxHeartbeats 2000000 in
theorem toDrumS_ex (A : Option Addr) (c : Nat) (ds : List (Nat → Int)) (w : World) (hA : DsA w A ds) (hn : ds.length ≤ 1048576) :
    Calls Try.prog 38 #[.slice A ds.length c] w fun e w' => ∃ g : Nat, e = .returned (.slice (some ⟨g, 0, none⟩) ds.length ds.length) ∧ w.heap.size ≤ g ∧ LD w' g ds ∧ Below w.heap.size w w' := by
  obtain ⟨i0, hi, hz0, hz1, hz2⟩ := info_parts infoDr
  go_enter Try.func38, Try.ntmps38
  go_wp2_with (at_make; refine wpList_make_full _ rfl _ _ 60 rfl w.heap.size 29 i0 _ 96 Try.underlying60 hi hz0 hz1 _ _ _ _ ds.length rfl rfl (by omega) (by omega) (by rw [hz2]; omega) (by unfold maxLen; omega) (by simp [za]) ?_; intro w1 hown1 hgrow1)
  have hb0 : Below w.heap.size w w1 := (Below.refl _ _).grown hgrow1 (Nat.le_refl _) (fun j e => by cases e)
  have hT1 : w1.there w.heap.size 0 (ds.length * 96) := fun j hj => by
    rw [Nat.zero_add]
    have hc := hown1.cellAt j (by omega)
    refine ⟨?_, hown1.frozenAt j⟩
    rw [hc, List.getElem?_eq_getElem (by simp [madeCells]; omega)]
    rfl
  have hg1 : w.heap.size < w1.heap.size := (hown1.lt w.heap.size rfl).2
  clear hgrow1 hown1
  go_loopw [4] (fun i wr => ∃ k : Nat, k ≤ ds.length ∧ i = .int .i64 k ∧ (∀ j, j < k → wr.rangeAt w.heap.size (j * 96) (dv (ds.getD j fun _ => 0))) ∧ wr.there w.heap.size 0 (ds.length * 96) ∧ w.heap.size < wr.heap.size ∧ Below w.heap.size w wr)
    (fun i _ => ds.length - (intOf i).toNat)
  case atStart => exact ⟨0, Nat.zero_le _, rfl, fun j hj => absurd hj (Nat.not_lt_zero _), hT1, hg1, hb0⟩
  case round =>
    obtain ⟨k, hk, rfl, hR, hT, hg, hb⟩ := hrel
    by_cases hlt : k < ds.length
    · obtain ⟨b, o, rfl, hbb, hcc⟩ := hA k hlt
      have HC := hide (rangeAt_keep hcc hbb hb)
      have HR := hide hR
      obtain ⟨q, hq⟩ : ∃ q, ds.getD k (fun _ => 0) = q := ⟨_, rfl⟩
      rw [hq] at HC
      have HQ := hide hq
      have hbsz := hb.size
      clear hcc hA hb0 hT1 hg1 hR hq
      go_wp2_with (with_reducible refine wpList_load_da rfl 27 (.tmp 18) rfl b (o + k * 96) rfl q _ HC.out Try.underlying27 rfl (infoLt q) ?_)
      refine (toDrum_any q _).mono ?_
      rintro e w2 ⟨rfl, hb2⟩
      have hT2 := there_keep hT hg hb2
      have hs2 := hb2.size
      have hTk : w2.there w.heap.size (k * 96) (da q).size := by rw [da_size]; exact there_part hT2 (by omega)
      have hki : (k : Int) < (ds.length : Int) := by omega
      go_wp2_with (with_reducible refine wpList_store_mid rfl 29 (.tmp 21) (.tmp 20) rfl w.heap.size (k * 96) (da q) rfl rfl hTk (by rw [da_size]; exact info29) (da_one q) ?_)
      go_roundw
      case rel =>
        refine ⟨k + 1, hlt, by go_num, fun j hj => ?_, World.there_setCells hT2 _ _ _, Nat.lt_of_lt_of_le (by omega) (below_setCells (B := 0) (Below.refl 0 w2) (Nat.zero_le _) _ _).size, below_setCells (hb.trans (hb2.mono hbsz)) (Nat.le_refl _) _ _⟩
        rcases Nat.lt_or_ge j k with h1 | h1
        · exact World.rangeAt_setCells_apart (rangeAt_keep (HR.out j h1) hg hb2) _ _ _ (Or.inr (Or.inl (by rw [dv_length]; omega)))
        · rw [show j = k by omega, HQ.out]
          exact World.rangeAt_setCells_same _ _ _ (dv q) (by rw [dv_length]; exact there_part hT2 (by omega))
      case measure => simp [intOf]; omega
    · obtain rfl : k = ds.length := by omega
      have HR := hide hR
      clear hR
      go_wp2
      go_ret
      exact ⟨_, rfl, Nat.le_refl _, ⟨hg, HR.out⟩, hb⟩
set_option maxRecDepth 20000 in
set_option maxHeartbeats 2000000 in
theorem eqDrumS_any (g h c e : Nat) (ds : List (Nat → Int)) (w : World) (hA : LD w g ds) (hB : LD w h ds) (hn : ds.length ≤ 1048576) :
    Calls Try.prog 40 #[.slice (some ⟨g, 0, none⟩) ds.length c, .slice (some ⟨h, 0, none⟩) ds.length e] w (Says true w) := by
  go_enter Try.func40, Try.ntmps40
  go_wp2_with fail
  go_loopw [5] (fun i wr => ∃ k : Nat, k ≤ ds.length ∧ i = .int .i64 k ∧ Below w.heap.size w wr)
    (fun i _ => ds.length - (intOf i).toNat)
  case atStart => exact ⟨0, Nat.zero_le _, rfl, Below.refl _ _⟩
  case round =>
    obtain ⟨k, hk, rfl, hb⟩ := hrel
    by_cases hlt : k < ds.length
    · have A1 := hA.keep hb
      have B1 := hB.keep hb
      have hs := hb.size
      obtain ⟨q, hq⟩ : ∃ q, ds.getD k (fun _ => 0) = q := ⟨_, rfl⟩
      have HA1 : Hid (∀ p : Later wr, (Instr.loadAt 29 (.pointer (some ⟨g, k * 96, none⟩))).run Try.prog p.w = .ok (.agg (da q)) p.w) := hide fun p => run_loadAt_mid p.w g (k * 96) _ (dv q) _ (by rw [← hq]; exact (A1.keep p.h).range hlt) Try.underlying29 rfl (dInfo q)
      have HB1 : Hid (∀ p : Later wr, (Instr.loadAt 29 (.pointer (some ⟨h, k * 96, none⟩))).run Try.prog p.w = .ok (.agg (da q)) p.w) := hide fun p => run_loadAt_mid p.w h (k * 96) _ (dv q) _ (by rw [← hq]; exact (B1.keep p.h).range hlt) Try.underlying29 rfl (dInfo q)
      clear hA hB A1 B1 hq
      go_wp2_with fail
      refine wp_region_later (by kernel_rfl) (by kernel_rfl) ?_
      repeat (first | (go_big_quiet_want; with_reducible refine quiet_load_da 29 (.tmp 19) rfl (.pointer (some ⟨g, k * 96, none⟩)) rfl (.agg (da q)) (by rintro _ ⟨p, rfl⟩; exact HA1.out p) ?_; go_simp; go_big_quiet_on) | (go_big_quiet_want; with_reducible refine quiet_load_da 29 (.tmp 23) rfl (.pointer (some ⟨h, k * 96, none⟩)) rfl (.agg (da q)) (by rintro _ ⟨p, rfl⟩; exact HB1.out p) ?_; go_simp; go_big_quiet_on) | go_big_quiet_step ((go_at_call 19; with_reducible exact Later.call (eqDrum_any q _))))
      refine wpQuiet_nil ?_
      rintro _ ⟨⟨wq, hq⟩, rfl⟩
      go_wp2
      go_roundw
      case rel => exact ⟨k + 1, by omega, by go_num, hb.trans (hq.mono hs)⟩
      case measure => simp [intOf]; omega
    · obtain rfl : k = ds.length := by omega
      go_wp2
      go_ret
      exact ⟨rfl, hb⟩
end Go.Proofs.Ytncdgjaadlpncaa
