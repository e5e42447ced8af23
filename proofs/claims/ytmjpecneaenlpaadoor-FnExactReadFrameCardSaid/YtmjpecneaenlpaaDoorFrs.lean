import Derived.Test.YtmjpecneaenlpaaDoorGak
namespace Go.Proofs.YtmjpecneaenlpaaDoor
open Go.RowKit

def mnI (s : Int) : Int := if 20 < s then 20 else s
def hamB (s p r : Int) : Bool := inB p 0 47 && inB r 1 (mnI s)
def frB (s : Int) (l : List (Int × Int)) : Bool := inB s 2 96 && inB l.length 1 24 && (List.range l.length).all fun j => hamB s (hPi l j) (hRe l j)
def HWF (l : List (Int × Int)) : Prop := ∀ k, k < l.length → (-128 ≤ hPi l k ∧ hPi l k ≤ 127) ∧ (-128 ≤ hRe l k ∧ hRe l k ≤ 127)
/-- the hammers ahead of k are in range -/
def HG (s : Int) (l : List (Int × Int)) (k : Nat) : Prop := ∀ j, j < k → hamB s (hPi l j) (hRe l j) = true
theorem HG_succ {s : Int} {l : List (Int × Int)} {k : Nat} (h : HG s l k) (h' : hamB s (hPi l k) (hRe l k) = true) : HG s l (k + 1) := fun j hj => by
  rcases Nat.lt_or_ge j k with h1 | h1
  · exact h j h1
  · rw [show j = k by omega]; exact h'
theorem frB_yes {s : Int} {l : List (Int × Int)} (h1 : inB s 2 96 = true) (h2 : inB l.length 1 24 = true) (h : HG s l l.length) : frB s l = true := by
  have : (List.range l.length).all (fun j => hamB s (hPi l j) (hRe l j)) = true := by simp only [List.all_eq_true, List.mem_range]; exact h
  simp [frB, h1, h2, this]
theorem frB_no {s : Int} {l : List (Int × Int)} {k : Nat} (hk : k < l.length) (h : hamB s (hPi l k) (hRe l k) = false) : frB s l = false := by
  have : (List.range l.length).all (fun j => hamB s (hPi l j) (hRe l j)) = false := by
    rw [List.all_eq_false]
    exact ⟨k, List.mem_range.2 hk, by simp [h]⟩
  simp [frB, this]
theorem frB_all {s : Int} {l : List (Int × Int)} (h : frB s l = true) : (2 ≤ s ∧ s ≤ 96) ∧ (1 ≤ l.length ∧ l.length ≤ 24) ∧ HG s l l.length := by
  simp only [frB, inB, Bool.and_eq_true, decide_eq_true_eq, List.all_eq_true, List.mem_range] at h
  exact ⟨h.1.1, by omega, h.2⟩

theorem l00Min_any (s : Int) (w : World) :
    Calls Tryd.prog 62 #[.int .i64 20, .int .i64 s] w fun e w' => e = .returned (.int .i64 (mnI s)) ∧ w = w' := by
  go_enter Tryd.func62, Tryd.ntmps62
  go_wp2
  all_goals go_ret
  all_goals exact ⟨ret_int (by simp [mnI] <;> omega), rfl⟩

/-- block b holds a frame -/
def FP (w : World) (b : Nat) (s : Int) (A : Option Addr) (n c : Nat) : Prop := w.cell? ⟨b, 0, none⟩ = some (.int .i16 s) ∧ w.cell? ⟨b, 1, none⟩ = some (.slice A n c)
theorem FP.lt {w : World} {b : Nat} {s : Int} {A : Option Addr} {n c : Nat} (h : FP w b s A n c) : b < w.heap.size := World.block_lt_of_cell? w _ h.1
theorem FP.keep {w w' : World} {b : Nat} {s : Int} {A : Option Addr} {n c : Nat} (h : FP w b s A n c) (hb : Below w.heap.size w w') : FP w' b s A n c := ⟨(hb.cell (p := ⟨b, _, none⟩) h.lt).trans h.1, (hb.cell (p := ⟨b, _, none⟩) h.lt).trans h.2⟩


set_option maxHeartbeats 1000000 in
theorem l02Frame_any (b : Nat) (s : Int) (A : Option Addr) (c : Nat) (l : List (Int × Int)) (w : World) (hF : FP w b s A l.length c) (hA : HA w A l) (hn : l.length ≤ 1048576) (hwf : HWF l) (hs : -32768 ≤ s ∧ s ≤ 32767) :
    Calls Tryd.prog 35 #[.pointer (some ⟨b, 0, none⟩)] w (Says (frB s l) w) := by
  have hbl := hF.lt
  obtain ⟨g1, g2⟩ := hF
  obtain ⟨hs1, hs2⟩ := hs
  cases h1 : inB s 2 96
  · go_enter Tryd.func35, Tryd.ntmps35
    go_wp2_with (go_at_call 61; refine (l00In_any _ _ _ _).mono ?_; rintro e w' ⟨rfl, rfl⟩; try rw [h1])
    go_ret
    exact ⟨ret_bool (by simp [frB, h1]), Below.refl _ _⟩
  cases h2 : inB l.length 1 24
  · go_enter Tryd.func35, Tryd.ntmps35
    go_wp2_with (go_at_call 61; refine (l00In_any _ _ _ _).mono ?_; rintro e w' ⟨rfl, rfl⟩; first | rw [h1] | rw [h2])
    go_ret
    exact ⟨ret_bool (by simp [frB, h2]), Below.refl _ _⟩
  have H1 := hide h1
  have H2 := hide h2
  go_enter Tryd.func35, Tryd.ntmps35
  go_wp2_with (go_at_call 61; refine (l00In_any _ _ _ _).mono ?_; rintro e w' ⟨rfl, rfl⟩; first | rw [h1] | rw [h2])
  clear h1 h2
  go_loopw [3] (fun i wr => ∃ k : Nat, k ≤ l.length ∧ i = .int .i64 k ∧ HG s l k ∧ Below w.heap.size w wr)
    (fun i _ => l.length - (intOf i).toNat)
  case atStart => exact ⟨0, Nat.zero_le _, rfl, fun j hj => absurd hj (Nat.not_lt_zero _), Below.refl _ _⟩
  case round =>
    obtain ⟨k, hk, rfl, hG, hb⟩ := hrel
    have HG' := hide hG
    clear hG
    have e1 := (hb.cell (p := ⟨b, 0, none⟩) hbl).trans g1
    have e2 := (hb.cell (p := ⟨b, 1, none⟩) hbl).trans g2
    by_cases hlt : k < l.length
    · obtain ⟨b', o, rfl, hbb, c1, c2⟩ := hA k hlt
      have d1 := (hb.cell (p := ⟨b', o + k * 2, none⟩) hbb).trans c1
      have d2 := (hb.cell (p := ⟨b', o + k * 2 + 1, none⟩) hbb).trans c2
      have hsz := hb.size
      obtain ⟨⟨p1, p2⟩, r1, r2⟩ := hwf k hlt
      have hbx := hb.alloc hsz (.cells #[.int .i8 (hPi l k), .int .i8 (hRe l k)] 62)
      have q0 := Later.cell (w := wr.alloc (.cells #[.int .i8 (hPi l k), .int .i8 (hRe l k)] 62)) (((Below.refl _ _).alloc (Nat.le_refl _) _ : Below wr.heap.size wr _).cell (p := ⟨b, 0, none⟩) (by have : (⟨b, 0, none⟩ : Addr).block = b := rfl; omega) |>.trans e1)
      have q1 := Later.cell (w := wr.alloc (.cells #[.int .i8 (hPi l k), .int .i8 (hRe l k)] 62)) (a := ⟨wr.heap.size, 0, none⟩) (v := .int .i8 (hPi l k)) (by simp [go_sem])
      have q2 := Later.cell (w := wr.alloc (.cells #[.int .i8 (hPi l k), .int .i8 (hRe l k)] 62)) (a := ⟨wr.heap.size, 1, none⟩) (v := .int .i8 (hRe l k)) (by simp [go_sem])
      clear c1 c2 hA
      cases x1 : inB (hPi l k) 0 47
      · have HX := hide (show hamB s (hPi l k) (hRe l k) = false by simp [hamB, x1])
        have K1 : ∀ W, Calls Tryd.prog 61 #[.int .i64 (hPi l k), .int .i64 0, .int .i64 47] W fun e w' => e = .returned (.bool false) ∧ W = w' := fun W => by rw [← x1]; exact l00In_any _ _ _ W
        clear x1
        go_wp2_with fail
        refine wp_region_later (by kernel_rfl) (by kernel_rfl) ?_
        repeat (go_big_quiet_step ((go_at_call 61; with_reducible exact Later.same (K1 _))))
        refine wpQuiet_nil ?_
        rintro _ ⟨⟨wq, hq⟩, rfl⟩
        go_wp2
        go_ret
        exact ⟨ret_bool (frB_no hlt HX.out).symm, hbx.trans (hq.mono hbx.size)⟩
      · cases x2 : inB (hRe l k) 1 (mnI s)
        · have HX := hide (show hamB s (hPi l k) (hRe l k) = false by simp [hamB, x2])
          have K1 : ∀ W, Calls Tryd.prog 61 #[.int .i64 (hPi l k), .int .i64 0, .int .i64 47] W fun e w' => e = .returned (.bool true) ∧ W = w' := fun W => by rw [← x1]; exact l00In_any _ _ _ W
          have K2 : ∀ W, Calls Tryd.prog 61 #[.int .i64 (hRe l k), .int .i64 1, .int .i64 (mnI s)] W fun e w' => e = .returned (.bool false) ∧ W = w' := fun W => by rw [← x2]; exact l00In_any _ _ _ W
          clear x1 x2
          go_wp2_with fail
          refine wp_region_later (by kernel_rfl) (by kernel_rfl) ?_
          repeat (go_big_quiet_step (first | (go_at_call 61; with_reducible exact Later.same (K1 _)) | (go_at_call 61; with_reducible exact Later.same (K2 _)) | (go_at_call 62; with_reducible exact Later.same (l00Min_any s _))))
          refine wpQuiet_nil ?_
          rintro _ ⟨⟨wq, hq⟩, rfl⟩
          go_wp2
          go_ret
          exact ⟨ret_bool (frB_no hlt HX.out).symm, hbx.trans (hq.mono hbx.size)⟩
        · have HX := hide (show hamB s (hPi l k) (hRe l k) = true by simp [hamB, x1, x2])
          have K1 : ∀ W, Calls Tryd.prog 61 #[.int .i64 (hPi l k), .int .i64 0, .int .i64 47] W fun e w' => e = .returned (.bool true) ∧ W = w' := fun W => by rw [← x1]; exact l00In_any _ _ _ W
          have K2 : ∀ W, Calls Tryd.prog 61 #[.int .i64 (hRe l k), .int .i64 1, .int .i64 (mnI s)] W fun e w' => e = .returned (.bool true) ∧ W = w' := fun W => by rw [← x2]; exact l00In_any _ _ _ W
          clear x1 x2
          go_wp2_with fail
          refine wp_region_later (by kernel_rfl) (by kernel_rfl) ?_
          repeat (go_big_quiet_step (first | (go_at_call 61; with_reducible exact Later.same (K1 _)) | (go_at_call 61; with_reducible exact Later.same (K2 _)) | (go_at_call 62; with_reducible exact Later.same (l00Min_any s _))))
          refine wpQuiet_nil ?_
          rintro _ ⟨⟨wq, hq⟩, rfl⟩
          go_wp2
          go_roundw
          case rel => exact ⟨k + 1, hlt, by go_num, HG_succ HG'.out HX.out, hbx.trans (hq.mono hbx.size)⟩
          case measure => simp [intOf]; omega
    · obtain rfl : k = l.length := by omega
      go_wp2
      go_ret
      exact ⟨ret_bool (frB_yes H1.out H2.out HG'.out).symm, hb⟩
end Go.Proofs.YtmjpecneaenlpaaDoor
