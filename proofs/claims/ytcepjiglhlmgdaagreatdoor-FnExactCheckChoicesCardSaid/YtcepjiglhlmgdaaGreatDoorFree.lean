import Derived.Test.YtcepjiglhlmgdaaGreatDoorGaw
namespace Go.Proofs.YtcepjiglhlmgdaaGreatDoor
open Go.RowKit

/-- a pin of the track at the step g behind, or g ahead -/
def frAt (S : Nat) (d : Nat → Int) (k t g : Nat) : Bool := pinB d ((k + g) % S) t || pinB d ((k + S - g) % S) t
def freeB (S : Nat) (d : Nat → Int) (r k t : Nat) : Bool := (List.range r).all fun g => !frAt S d k t g
def FRG (S : Nat) (d : Nat → Int) (k t n : Nat) : Prop := ∀ g, g < n → frAt S d k t g = false
theorem FRG_succ {S : Nat} {d : Nat → Int} {k t n : Nat} (h : FRG S d k t n) (h' : frAt S d k t n = false) : FRG S d k t (n + 1) := fun j hj => by
  rcases Nat.lt_or_ge j n with h1 | h1
  · exact h j h1
  · rw [show j = n by omega]; exact h'
theorem freeB_yes {S : Nat} {d : Nat → Int} {r k t : Nat} (h : FRG S d k t r) : freeB S d r k t = true := by
  simp only [freeB, List.all_eq_true, List.mem_range, Bool.not_eq_true']
  exact h
theorem freeB_no {S : Nat} {d : Nat → Int} {r k t g : Nat} (hg : g < r) (h : frAt S d k t g = true) : freeB S d r k t = false := by
  rw [freeB, List.all_eq_false]
  exact ⟨g, List.mem_range.2 hg, by simp [h]⟩
theorem frAt_zero {S : Nat} {d : Nat → Int} {k t : Nat} (hk : k < S) : frAt S d k t 0 = pinB d k t := by
  unfold frAt
  rw [Nat.add_zero, Nat.sub_zero, Nat.add_mod_right, Nat.mod_eq_of_lt hk, Bool.or_self]

set_option maxRecDepth 20000 in
set_option maxHeartbeats 1000000 in
theorem aroundSub_any (S k g : Nat) (A : Option Addr) (n c : Nat) (w : World) (hS : 2 ≤ S ∧ S ≤ 96) (hk : k < S) (hg : g < S) :
    Calls Tryz.prog 83 #[.agg #[.int .i64 S, .slice A n c], .int .i64 ((k : Int) - (g : Int))] w fun e w' => e = .returned (.int .i64 (((k + S - g) % S : Nat) : Int)) ∧ Below w.heap.size w w' := by
  have hb0 : Below w.heap.size w (w.alloc (.cells #[.int .i64 S, .slice A n c] 93)) := (Below.refl _ _).alloc (Nat.le_refl _) _
  have hne : ((S : Int) == 0) = false := by simp; omega
  have h0 : 0 ≤ (k : Int) - (g : Int) + (S : Int) := by omega
  have e1 : (((k + S - g : Nat)) : Int) = (k : Int) - (g : Int) + (S : Int) := by omega
  go_enter Tryz.func83, Tryz.ntmps83
  go_wp2
  go_ret
  exact ⟨ret_int (by rw [Int.natCast_emod, e1]), hb0⟩

set_option maxRecDepth 20000 in
set_option maxHeartbeats 2000000 in
theorem l02Free_any (b g : Nat) (S : Nat) (A : Option Addr) (c : Nat) (l : List (Int × Int)) (d : Nat → Int) (k t : Nat) (w : World) (hF : FP w b S A l.length c) (hD : Dr w g 53 d) (hA : HA w A l) (hS : 2 ≤ S ∧ S ≤ 96) (hl : l.length ≤ 24) (hg : HG S l l.length) (hk : k < S) (ht : t < l.length) (hd : DWF d) :
    Calls Tryz.prog 53 #[.pointer (some ⟨b, 0, none⟩), .pointer (some ⟨g, 0, none⟩), .int .i64 k, .int .i64 t] w fun e w' => e = .returned (.bool (freeB S d (hRe l t).toNat k t)) ∧ w = w' := by
  obtain ⟨g1, g2⟩ := hF
  obtain ⟨bb, o, rfl, hbb, c1, c2⟩ := hA t ht
  obtain ⟨_, e1, e2, e3⟩ := hg.at ht
  obtain ⟨R, hR⟩ : ∃ R : Nat, hRe l t = (R : Int) := ⟨(hRe l t).toNat, by omega⟩
  rw [hR] at c2 e1 e2 e3
  have hRn : (hRe l t).toNat = R := by omega
  rw [hRn]
  clear hR hRn hA hg
  have KP : ∀ (y : Nat), y < 96 → ∀ W, W = w → Calls Tryz.prog 72 #[.pointer (some ⟨g, 0, none⟩), .int .i64 (y : Int), .int .i64 t] W fun e w' => e = .returned (.bool (pinB d y t)) ∧ W = w' := fun y hy W hW => by subst hW; exact l02Pin_any g y t d _ hD hy (by omega) hd
  have hk96 : k < 96 := by omega
  cases hp : pinB d k t
  · have K0 : Calls Tryz.prog 72 #[.pointer (some ⟨g, 0, none⟩), .int .i64 (k : Int), .int .i64 t] w fun e w' => e = .returned (.bool false) ∧ w = w' := by rw [← hp]; exact KP k hk96 w rfl
    have H0 := hide (show frAt S d k t 0 = false by rw [frAt_zero hk, hp])
    clear hp
    go_enter Tryz.func53, Tryz.ntmps53
    go_wp2_with (go_at_call 72; refine K0.mono ?_; rintro e w' ⟨rfl, rfl⟩)
    go_loop [11] (fun i => ∃ n : Nat, 1 ≤ n ∧ n ≤ R ∧ i = .int .i64 n ∧ FRG S d k t n) (fun i => R - (intOf i).toNat)
    case atStart => exact ⟨1, Nat.le_refl _, by omega, rfl, fun j hj => by rw [show j = 0 by omega]; exact H0.out⟩
    case round =>
      obtain ⟨n, hn1, hnR, rfl, hG⟩ := hrel
      have HGG := hide hG
      clear hG
      by_cases hlt : n < R
      · obtain ⟨y1, hy1e⟩ : ∃ y1, (k + n) % S = y1 := ⟨_, rfl⟩
        obtain ⟨y2, hy2e⟩ : ∃ y2, (k + S - n) % S = y2 := ⟨_, rfl⟩
        have hm1 : ((k : Int) + (n : Int)) % (S : Int) = (y1 : Int) := by rw [← hy1e]; push_cast; rfl
        have hm2 : ((k : Int) + (S : Int) - (n : Int)) % (S : Int) = (y2 : Int) := by rw [← hy2e, Int.natCast_emod]; congr 1; omega
        have hne : ((S : Int) == 0) = false := by simp; omega
        have hy1 : y1 < 96 := by rw [← hy1e]; exact Nat.lt_of_lt_of_le (Nat.mod_lt _ (by omega)) (by omega)
        have hy2 : y2 < 96 := by rw [← hy2e]; exact Nat.lt_of_lt_of_le (Nat.mod_lt _ (by omega)) (by omega)
        have hfr : frAt S d k t n = (pinB d y1 t || pinB d y2 t) := by rw [frAt, hy1e, hy2e]
        clear hy1e hy2e
        cases p1 : pinB d y1 t
        · cases p2 : pinB d y2 t
          · have HX := hide (show frAt S d k t n = false by rw [hfr, p1, p2]; rfl)
            have K1 : ∀ W, W = w → Calls Tryz.prog 72 #[.pointer (some ⟨g, 0, none⟩), .int .i64 (y1 : Int), .int .i64 t] W fun e w' => e = .returned (.bool false) ∧ W = w' := by rw [← p1]; exact KP y1 hy1
            have K2 : ∀ W, W = w → Calls Tryz.prog 72 #[.pointer (some ⟨g, 0, none⟩), .int .i64 (y2 : Int), .int .i64 t] W fun e w' => e = .returned (.bool false) ∧ W = w' := by rw [← p2]; exact KP y2 hy2
            clear p1 p2 hfr
            go_wp2_with (first | (go_at_call 72; with_reducible refine (K1 _ rfl).mono ?_; rintro e w' ⟨rfl, rfl⟩) | (go_at_call 72; with_reducible refine (K2 _ rfl).mono ?_; rintro e w' ⟨rfl, rfl⟩))
            go_round
            case rel => exact ⟨n + 1, by omega, hlt, by go_num, FRG_succ HGG.out HX.out⟩
            case measure => simp [intOf]; omega
          · have HX := hide (show frAt S d k t n = true by rw [hfr, p1, p2]; rfl)
            have K1 : ∀ W, W = w → Calls Tryz.prog 72 #[.pointer (some ⟨g, 0, none⟩), .int .i64 (y1 : Int), .int .i64 t] W fun e w' => e = .returned (.bool false) ∧ W = w' := by rw [← p1]; exact KP y1 hy1
            have K2 : ∀ W, W = w → Calls Tryz.prog 72 #[.pointer (some ⟨g, 0, none⟩), .int .i64 (y2 : Int), .int .i64 t] W fun e w' => e = .returned (.bool true) ∧ W = w' := by rw [← p2]; exact KP y2 hy2
            clear p1 p2 hfr
            go_wp2_with (first | (go_at_call 72; with_reducible refine (K1 _ rfl).mono ?_; rintro e w' ⟨rfl, rfl⟩) | (go_at_call 72; with_reducible refine (K2 _ rfl).mono ?_; rintro e w' ⟨rfl, rfl⟩))
            go_ret
            exact ⟨ret_bool (freeB_no hlt HX.out).symm, rfl⟩
        · have HX := hide (show frAt S d k t n = true by rw [hfr, p1]; rfl)
          have K1 : ∀ W, W = w → Calls Tryz.prog 72 #[.pointer (some ⟨g, 0, none⟩), .int .i64 (y1 : Int), .int .i64 t] W fun e w' => e = .returned (.bool true) ∧ W = w' := by rw [← p1]; exact KP y1 hy1
          clear p1 hfr
          go_wp2_with (first | (go_at_call 72; with_reducible refine (K1 _ rfl).mono ?_; rintro e w' ⟨rfl, rfl⟩))
          go_ret
          exact ⟨ret_bool (freeB_no hlt HX.out).symm, rfl⟩
      · obtain rfl : n = R := by omega
        go_wp2
        go_ret
        exact ⟨ret_bool (freeB_yes HGG.out).symm, rfl⟩
  · have K0 : Calls Tryz.prog 72 #[.pointer (some ⟨g, 0, none⟩), .int .i64 (k : Int), .int .i64 t] w fun e w' => e = .returned (.bool true) ∧ w = w' := by rw [← hp]; exact KP k hk96 w rfl
    have H0 := hide (show frAt S d k t 0 = true by rw [frAt_zero hk, hp])
    clear hp
    go_enter Tryz.func53, Tryz.ntmps53
    go_wp2_with (go_at_call 72; refine K0.mono ?_; rintro e w' ⟨rfl, rfl⟩)
    go_ret
    exact ⟨ret_bool (freeB_no (by omega) H0.out).symm, rfl⟩

set_option maxRecDepth 20000 in
set_option maxHeartbeats 4000000 in
theorem isFree_any (S : Nat) (A : Option Addr) (c : Nat) (l : List (Int × Int)) (d : Nat → Int) (k t : Nat) (w : World) (hA : HA w A l) (hS : 2 ≤ S ∧ S ≤ 96) (hl : l.length ≤ 24) (hg : HG S l l.length) (hk : k < S) (ht : t < l.length) (hd : DWF d) :
    Calls Tryz.prog 66 #[.agg #[.int .i64 S, .slice A l.length c], .agg (da d), .int .i64 k, .int .i64 t] w (Says (freeB S d (hRe l t).toNat k t) w) := by
  have hb0 : Below w.heap.size w ((w.alloc (.cells #[.int .i64 S, .slice A l.length c] 93)).alloc (.cells (da d) 53)) := ((Below.refl _ _).alloc (Nat.le_refl _) _).alloc (by simp) _
  have D0 : Dr ((w.alloc (.cells #[.int .i64 S, .slice A l.length c] 93)).alloc (.cells (da d) 53)) (w.heap.size + 1) 53 d := heap_new' _ _ _ (by simp)
  have M0 : ((w.alloc (.cells #[.int .i64 S, .slice A l.length c] 93)).alloc (.cells (da d) 53)).cell? ⟨w.heap.size, 0, none⟩ = some (.int .i64 S) := by simp [go_sem]
  have M1 : ((w.alloc (.cells #[.int .i64 S, .slice A l.length c] 93)).alloc (.cells (da d) 53)).cell? ⟨w.heap.size, 1, none⟩ = some (.slice A l.length c) := by simp [go_sem]
  obtain ⟨bb, o, rfl, hbb, c1', c2'⟩ := hA t ht
  have c2 := (hb0.cell (p := ⟨bb, o + t * 2 + 1, none⟩) hbb).trans c2'
  obtain ⟨_, e1, e2, e3⟩ := hg.at ht
  obtain ⟨R, hR⟩ : ∃ R : Nat, hRe l t = (R : Int) := ⟨(hRe l t).toNat, by omega⟩
  rw [hR] at c2 e1 e2 e3
  have hRn : (hRe l t).toNat = R := by omega
  rw [hRn]
  clear hR hRn hA hg c1' c2'
  go_enter Tryz.func66, Tryz.ntmps66
  go_wp2_with fail
  go_loopw [9, 17] (fun _ i wr => ∃ n : Nat, n ≤ R ∧ i = .int .i64 n ∧ FRG S d k t n ∧ wr.cell? ⟨w.heap.size, 0, none⟩ = some (.int .i64 S) ∧ wr.cell? ⟨w.heap.size, 1, none⟩ = some (.slice (some ⟨bb, o, none⟩) l.length c) ∧ Dr wr (w.heap.size + 1) 53 d ∧ Below w.heap.size w wr) (fun _ i _ => R - (intOf i).toNat)
  case atStart => exact ⟨0, Nat.zero_le _, rfl, fun j hj => absurd hj (Nat.not_lt_zero _), M0, M1, D0, hb0⟩
  case round =>
    obtain ⟨n, hnR, rfl, hG, m0, m1, D1, hb⟩ := hrel
    have HGG := hide hG
    clear hG
    by_cases hlt : n < R
    · obtain ⟨y1, hy1e⟩ : ∃ y1, (k + n) % S = y1 := ⟨_, rfl⟩
      obtain ⟨y2, hy2e⟩ : ∃ y2, (k + S - n) % S = y2 := ⟨_, rfl⟩
      have hy1 : y1 < 96 := by rw [← hy1e]; exact Nat.lt_of_lt_of_le (Nat.mod_lt _ (by omega)) (by omega)
      have hy2 : y2 < 96 := by rw [← hy2e]; exact Nat.lt_of_lt_of_le (Nat.mod_lt _ (by omega)) (by omega)
      have hfr : frAt S d k t n = (pinB d y1 t || pinB d y2 t) := by rw [frAt, hy1e, hy2e]
      have KA1 : ∀ W, Calls Tryz.prog 83 #[.agg #[.int .i64 S, .slice (some ⟨bb, o, none⟩) l.length c], .int .i64 ((k : Int) + (n : Int))] W fun e w' => e = .returned (.int .i64 (y1 : Int)) ∧ Below W.heap.size W w' := fun W => by
        have h := around_any S (k + n) (some ⟨bb, o, none⟩) l.length c W hS (by omega)
        rw [hy1e, Int.natCast_add] at h
        exact h
      have KA2 : ∀ W, Calls Tryz.prog 83 #[.agg #[.int .i64 S, .slice (some ⟨bb, o, none⟩) l.length c], .int .i64 ((k : Int) - (n : Int))] W fun e w' => e = .returned (.int .i64 (y2 : Int)) ∧ Below W.heap.size W w' := fun W => by
        have h := aroundSub_any S k n (some ⟨bb, o, none⟩) l.length c W hS hk (by omega)
        rw [hy2e] at h
        exact h
      have q0 := Later.cell m0
      have q1 := Later.cell m1
      have HL := hide D1.later
      have hsz := hb.size
      have hwa : IntKind.i64.wrap ((k : Int) + (n : Int)) = (k : Int) + (n : Int) := IntWalk.i64_in _ (by omega)
      have hws : IntKind.i64.wrap ((k : Int) - (n : Int)) = (k : Int) - (n : Int) := IntWalk.i64_in _ (by omega)
      clear hy1e hy2e
      cases p1 : pinB d y1 t
      · have H1 : ∀ W, Calls Tryz.prog 82 #[.agg (da d), .int .i64 (y1 : Int), .int .i64 t] W fun e w' => e = .returned (.bool false) ∧ Below W.heap.size W w' := fun W => by rw [← p1]; exact has_any y1 t d W hy1 (by omega) hd
        cases p2 : pinB d y2 t
        · have HX := hide (show frAt S d k t n = false by rw [hfr, p1, p2]; rfl)
          have H2 : ∀ W, Calls Tryz.prog 82 #[.agg (da d), .int .i64 (y2 : Int), .int .i64 t] W fun e w' => e = .returned (.bool false) ∧ Below W.heap.size W w' := fun W => by rw [← p2]; exact has_any y2 t d W hy2 (by omega) hd
          clear p1 p2 hfr
          go_wp2_with fail
          refine wp_region_later (by kernel_rfl) (by kernel_rfl) ?_
          repeat (first | (go_big_quiet_want; with_reducible refine quiet_load_da 53 (.tmp 5) rfl (.pointer (some ⟨w.heap.size + 1, 0, none⟩)) rfl (.agg (da d)) (by rintro _ ⟨p, rfl⟩; exact HL.out p) ?_; go_simp; go_big_quiet_on) | go_big_quiet_step (first | (go_at_call 83; with_reducible exact Later.call (KA1 _)) | (go_at_call 82; with_reducible exact Later.call (H1 _)) | (go_at_call 83; with_reducible exact Later.call (KA2 _)) | (go_at_call 82; with_reducible exact Later.call (H2 _))))
          refine wpQuiet_nil ?_
          rintro wz ⟨⟨_, hq⟩, rfl⟩
          go_wp2
          go_roundw
          case rel => exact ⟨n + 1, hlt, by go_num, FRG_succ HGG.out HX.out, (hq.cell (p := ⟨w.heap.size, 0, none⟩) (World.block_lt_of_cell? _ _ m0)).trans m0, (hq.cell (p := ⟨w.heap.size, 1, none⟩) (World.block_lt_of_cell? _ _ m1)).trans m1, D1.keep hq, hb.trans (hq.mono hsz)⟩
          case measure => simp [intOf]; omega
        · have HX := hide (show frAt S d k t n = true by rw [hfr, p1, p2]; rfl)
          have H2 : ∀ W, Calls Tryz.prog 82 #[.agg (da d), .int .i64 (y2 : Int), .int .i64 t] W fun e w' => e = .returned (.bool true) ∧ Below W.heap.size W w' := fun W => by rw [← p2]; exact has_any y2 t d W hy2 (by omega) hd
          clear p1 p2 hfr
          go_wp2_with fail
          refine wp_region_later (by kernel_rfl) (by kernel_rfl) ?_
          repeat (first | (go_big_quiet_want; with_reducible refine quiet_load_da 53 (.tmp 5) rfl (.pointer (some ⟨w.heap.size + 1, 0, none⟩)) rfl (.agg (da d)) (by rintro _ ⟨p, rfl⟩; exact HL.out p) ?_; go_simp; go_big_quiet_on) | go_big_quiet_step (first | (go_at_call 83; with_reducible exact Later.call (KA1 _)) | (go_at_call 82; with_reducible exact Later.call (H1 _)) | (go_at_call 83; with_reducible exact Later.call (KA2 _)) | (go_at_call 82; with_reducible exact Later.call (H2 _))))
          refine wpQuiet_nil ?_
          rintro wz ⟨⟨_, hq⟩, rfl⟩
          go_wp2
          go_ret
          exact ⟨ret_bool (freeB_no hlt HX.out).symm, hb.trans (hq.mono hsz)⟩
      · have HX := hide (show frAt S d k t n = true by rw [hfr, p1]; rfl)
        have H1 : ∀ W, Calls Tryz.prog 82 #[.agg (da d), .int .i64 (y1 : Int), .int .i64 t] W fun e w' => e = .returned (.bool true) ∧ Below W.heap.size W w' := fun W => by rw [← p1]; exact has_any y1 t d W hy1 (by omega) hd
        clear p1 hfr
        go_wp2_with fail
        refine wp_region_later (by kernel_rfl) (by kernel_rfl) ?_
        repeat (first | (go_big_quiet_want; with_reducible refine quiet_load_da 53 (.tmp 5) rfl (.pointer (some ⟨w.heap.size + 1, 0, none⟩)) rfl (.agg (da d)) (by rintro _ ⟨p, rfl⟩; exact HL.out p) ?_; go_simp; go_big_quiet_on) | go_big_quiet_step (first | (go_at_call 83; with_reducible exact Later.call (KA1 _)) | (go_at_call 82; with_reducible exact Later.call (H1 _))))
        refine wpQuiet_nil ?_
        rintro wz ⟨⟨_, hq⟩, rfl⟩
        go_wp2
        go_ret
        exact ⟨ret_bool (freeB_no hlt HX.out).symm, hb.trans (hq.mono hsz)⟩
    · obtain rfl : n = R := by omega
      go_wp2
      go_ret
      exact ⟨ret_bool (freeB_yes HGG.out).symm, hb⟩
end Go.Proofs.YtcepjiglhlmgdaaGreatDoor
