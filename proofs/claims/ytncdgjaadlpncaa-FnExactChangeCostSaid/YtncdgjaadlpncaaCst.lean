import Derived.Test.YtncdgjaadlpncaaPtm
import Derived.Test.YtncdgjaadlpncaaLst
namespace Go.Proofs.Ytncdgjaadlpncaa
open Go.RowKit

/-- the cost of a drum behind another one -/
def cstI (a b : Nat → Int) : Int := mvI a b + mvI b a
theorem mvI_bd (p q : Nat → Int) : 0 ≤ mvI p q ∧ mvI p q ≤ 412316860320 := by
  have h := cntT_le (mvD p q) (mv_wf p q) 96 (Nat.le_refl _)
  unfold mvI cntI
  omega
def ccI (s : Int) (l : List (Int × Int)) (a b : Nat → Int) : Int := onlyI (ask2B s l a b) (cstI a b)

set_option maxRecDepth 20000 in
set_option maxHeartbeats 1000000 in
theorem l05Both_any (x g h : Nat) (s : Int) (A : Option Addr) (c : Nat) (l : List (Int × Int)) (a b : Nat → Int) (w : World) (hF : FP w x s A l.length c) (hA : HA w A l) (hn : l.length ≤ 1048576) (hwf : HWF l) (hs : -32768 ≤ s ∧ s ≤ 32767)
    (hD : Dr w g 29 a) (hE : Dr w h 29 b) (ha : DWF a) (hb : DWF b) :
    Calls Try.prog 75 #[.pointer (some ⟨x, 0, none⟩), .pointer (some ⟨g, 0, none⟩), .pointer (some ⟨h, 0, none⟩)] w (SaysI (codeI (ask2B s l a b)) w) := by
  go_enter Try.func75, Try.ntmps75
  go_wp2_with fail
  refine (l02Frame_any _ s A c l _ hF hA hn hwf hs).mono ?_
  rintro e w1 ⟨rfl, hb1⟩
  have F1 := hF.keep hb1
  have D1 := hD.keep hb1
  have E1 := hE.keep hb1
  cases hf : frB s l
  · have HX := hide (show codeI (ask2B s l a b) = 1 by simp [ask2B, hf, codeI])
    clear hf
    go_wp2
    go_ret
    exact ⟨ret_int HX.out.symm, hb1⟩
  · have hfa := frB_all hf
    go_wp2_with fail
    refine (l02Drum_any _ _ s A l.length c a _ F1 D1 hfa.2.1.2 hfa.1 ha).mono ?_
    rintro e w2 ⟨rfl, hb2⟩
    have b2 := step_below hb2 hb1
    have F2 := F1.keep hb2
    have E2 := E1.keep hb2
    cases hda : drB s l.length a
    · have HX := hide (show codeI (ask2B s l a b) = 1 by simp [ask2B, hf, hda, codeI])
      clear hf hda
      go_wp2
      go_ret
      exact ⟨ret_int HX.out.symm, b2⟩
    · go_wp2_with fail
      refine (l02Drum_any _ _ s A l.length c b _ F2 E2 hfa.2.1.2 hfa.1 hb).mono ?_
      rintro e w3 ⟨rfl, hb3⟩
      have b3 := step_below hb3 b2
      cases hdb : drB s l.length b
      · have HX := hide (show codeI (ask2B s l a b) = 1 by simp [ask2B, hf, hda, hdb, codeI])
        clear hf hda hdb
        go_wp2
        go_ret
        exact ⟨ret_int HX.out.symm, b3⟩
      · have HX := hide (show codeI (ask2B s l a b) = 0 by simp [ask2B, hf, hda, hdb, codeI])
        clear hf hda hdb
        go_wp2
        go_ret
        exact ⟨ret_int HX.out.symm, b3⟩
set_option maxHeartbeats 1000000 in
theorem l05Cost_any (g h : Nat) (a b : Nat → Int) (w : World) (hA : Dr w g 29 a) (hB : Dr w h 29 b) :
    Calls Try.prog 76 #[.pointer (some ⟨g, 0, none⟩), .pointer (some ⟨h, 0, none⟩)] w (SaysI (cstI a b) w) := by
  go_enter Try.func76, Try.ntmps76
  go_wp2_with fail
  refine (l02Moves_any g h a b _ hA hB).mono ?_
  rintro e w1 ⟨rfl, hb1⟩
  go_wp2_with fail
  refine (l02Moves_any h g b a _ (hB.keep hb1) (hA.keep hb1)).mono ?_
  rintro e w2 ⟨rfl, hb2⟩
  have b2 := step_below hb2 hb1
  have h1 := mvI_bd a b
  have h2 := mvI_bd b a
  have hw1 : IntKind.i64.wrap (mvI b a + mvI a b) = mvI b a + mvI a b := IntWalk.i64_in _ (by omega)
  go_wp2
  go_ret
  exact ⟨ret_int (by unfold cstI; omega), b2⟩
set_option maxRecDepth 20000 in
set_option maxHeartbeats 1000000 in
theorem specChangeCost_any (s : Int) (A : Option Addr) (c : Nat) (l : List (Int × Int)) (a b : Nat → Int) (w : World) (hA : HA w A l) (hn : l.length ≤ 1048576) (hwf : HWF l) (hs : -32768 ≤ s ∧ s ≤ 32767) (ha : DWF a) (hb : DWF b) :
    Calls Try.prog 34 #[.agg #[.int .i16 s, .slice A l.length c], .agg (da a), .agg (da b)] w fun e w' => e = .returned (.tuple #[.int .i64 (ccI s l a b), .int .i64 (codeI (ask2B s l a b))]) ∧ Below w.heap.size w w' := by
  have hb0 : Below w.heap.size w (((w.alloc (.cells #[.int .i16 s, .slice A l.length c] 34)).alloc (.cells (da a) 29)).alloc (.cells (da b) 29)) := (((Below.refl _ _).alloc (Nat.le_refl _) _).alloc (by simp) _).alloc (by simp; omega) _
  have hF : FP (((w.alloc (.cells #[.int .i16 s, .slice A l.length c] 34)).alloc (.cells (da a) 29)).alloc (.cells (da b) 29)) w.heap.size s A l.length c := ⟨by simp [go_sem], by simp [go_sem]⟩
  have hD : Dr (((w.alloc (.cells #[.int .i16 s, .slice A l.length c] 34)).alloc (.cells (da a) 29)).alloc (.cells (da b) 29)) (w.heap.size + 1) 29 a := heap_old' (heap_new' _ _ _ (by simp))
  have hE : Dr (((w.alloc (.cells #[.int .i16 s, .slice A l.length c] 34)).alloc (.cells (da a) 29)).alloc (.cells (da b) 29)) (w.heap.size + 1 + 1) 29 b := heap_new' _ _ _ (by simp)
  go_enter Try.func34, Try.ntmps34
  go_wp2_with fail
  refine (l05Both_any _ _ _ s A c l a b _ hF (hA.below hb0) hn hwf hs hD hE ha hb).mono ?_
  rintro e w1 ⟨rfl, hb1⟩
  have b1 := step_below hb1 hb0
  cases hf : ask2B s l a b
  · have HX := hide hf
    clear hf
    simp only [codeI]
    go_wp2
    go_ret2
    exact ⟨by rw [ccI, HX.out]; rfl, b1⟩
  · have HX := hide hf
    clear hf
    simp only [codeI]
    go_wp2_with fail
    refine (l05Cost_any _ _ a b _ (hD.keep hb1) (hE.keep hb1)).mono ?_
    rintro e w2 ⟨rfl, hb2⟩
    go_wp2
    go_ret2
    exact ⟨by rw [ccI, HX.out]; rfl, step_below hb2 b1⟩
set_option maxRecDepth 20000 in
set_option maxHeartbeats 1000000 in
theorem costOf_any (a b : Nat → Int) (w : World) :
    Calls Try.prog 77 #[.agg (da a), .agg (da b)] w fun e w' => e = .returned (.int .i64 (cstI a b)) ∧ Below w.heap.size w w' := by
  have hb0 : Below w.heap.size w ((w.alloc (.cells (da a) 29)).alloc (.cells (da b) 29)) := ((Below.refl _ _).alloc (Nat.le_refl _) _).alloc (by simp) _
  have hD : Dr ((w.alloc (.cells (da a) 29)).alloc (.cells (da b) 29)) w.heap.size 29 a := heap_old' (heap_new' _ _ _ rfl)
  have hE : Dr ((w.alloc (.cells (da a) 29)).alloc (.cells (da b) 29)) (w.heap.size + 1) 29 b := heap_new' _ _ _ (by simp)
  have LDa := hide hD.later
  have LDb := hide hE.later
  have h1 := mvI_bd a b
  have h2 := mvI_bd b a
  have hw1 : IntKind.i64.wrap (mvI a b + mvI b a) = mvI a b + mvI b a := IntWalk.i64_in _ (by omega)
  have M1 : ∀ W, Calls Try.prog 86 #[.agg (da (mvD a b))] W fun e w' => e = .returned (.int .i64 (mvI a b)) ∧ Below W.heap.size W w' := fun W => count_any _ W (mv_wf a b)
  have M2 : ∀ W, Calls Try.prog 86 #[.agg (da (mvD b a))] W fun e w' => e = .returned (.int .i64 (mvI b a)) ∧ Below W.heap.size W w' := fun W => count_any _ W (mv_wf b a)
  go_enter Try.func77, Try.ntmps77
  go_wp2_with fail
  refine wp_region_later (by kernel_rfl) (by kernel_rfl) ?_
  repeat (first | (go_big_quiet_want; with_reducible refine quiet_load_da 29 (.tmp 2) rfl (.pointer (some ⟨w.heap.size, 0, none⟩)) rfl (.agg (da a)) (by rintro _ ⟨p, rfl⟩; exact LDa.out p) ?_; go_simp; go_big_quiet_on) | (go_big_quiet_want; with_reducible refine quiet_load_da 29 (.tmp 3) rfl (.pointer (some ⟨w.heap.size + 1, 0, none⟩)) rfl (.agg (da b)) (by rintro _ ⟨p, rfl⟩; exact LDb.out p) ?_; go_simp; go_big_quiet_on) | go_big_quiet_step (first | (go_at_call 103; with_reducible exact Later.call (minus_any _ _ _)) | (go_at_call 86; with_reducible exact Later.call (M1 _)) | (go_at_call 86; with_reducible exact Later.call (M2 _))))
  refine wpQuiet_nil ?_
  rintro _ ⟨⟨wq, hq⟩, rfl⟩
  go_wp2
  go_ret
  exact ⟨rfl, hb0.trans (hq.mono hb0.size)⟩
set_option maxRecDepth 20000 in
set_option maxHeartbeats 1000000 in
theorem implChangeCost_any (s : Int) (A : Option Addr) (c : Nat) (l : List (Int × Int)) (a b : Nat → Int) (w : World) (hA : HA w A l) (hn : l.length ≤ 1048576) (hwf : HWF l) (hs : -32768 ≤ s ∧ s ≤ 32767) (ha : DWF a) (hb : DWF b) :
    Calls Try.prog 35 #[.agg #[.int .i16 s, .slice A l.length c], .agg (da a), .agg (da b)] w fun e w' => e = .returned (.tuple #[.int .i64 (ccI s l a b), .int .i64 (codeI (ask2B s l a b))]) ∧ Below w.heap.size w w' := by
  have hb0 : Below w.heap.size w (((w.alloc (.cells #[.int .i16 s, .slice A l.length c] 34)).alloc (.cells (da a) 29)).alloc (.cells (da b) 29)) := (((Below.refl _ _).alloc (Nat.le_refl _) _).alloc (by simp) _).alloc (by simp; omega) _
  have hD : Dr (((w.alloc (.cells #[.int .i16 s, .slice A l.length c] 34)).alloc (.cells (da a) 29)).alloc (.cells (da b) 29)) (w.heap.size + 1) 29 a := heap_old' (heap_new' _ _ _ (by simp))
  have hE : Dr (((w.alloc (.cells #[.int .i16 s, .slice A l.length c] 34)).alloc (.cells (da a) 29)).alloc (.cells (da b) 29)) (w.heap.size + 1 + 1) 29 b := heap_new' _ _ _ (by simp)
  have HRa := hide hD.range
  have HRb := hide hE.range
  go_enter Try.func35, Try.ntmps35
  go_wp2_with (first | (with_reducible refine wpList_load_da rfl 29 (.tmp 4) rfl (w.heap.size + 1) 0 rfl a _ HRa.out Try.underlying29 rfl (dInfo a) ?_) | (with_reducible refine wpList_load_da rfl 29 (.tmp 5) rfl (w.heap.size + 1 + 1) 0 rfl b _ HRb.out Try.underlying29 rfl (dInfo b) ?_) | (with_reducible refine wpList_build2 rfl (.tmp 12) (.tmp 13) rfl a b rfl rfl ?_))
  refine (machine2_any s A c l a b _ (hA.below hb0) hn hwf hs ha hb _ (by simp)).mono ?_
  rintro e w2 ⟨rfl, hb2⟩
  have hx0 : Below (((w.alloc (.cells #[.int .i16 s, .slice A l.length c] 34)).alloc (.cells (da a) 29)).alloc (.cells (da b) 29)).heap.size (((w.alloc (.cells #[.int .i16 s, .slice A l.length c] 34)).alloc (.cells (da a) 29)).alloc (.cells (da b) 29)) ((((w.alloc (.cells #[.int .i16 s, .slice A l.length c] 34)).alloc (.cells (da a) 29)).alloc (.cells (da b) 29)).alloc (.cells (da a ++ da b) 29)) := (Below.refl _ _).alloc (Nat.le_refl _) _
  have b2 := step_below hb2 (hb0.alloc hb0.size (.cells (da a ++ da b) 29))
  have hy : Below w2.heap.size w2 (w2.alloc (.cells #[.int .i64 s, .slice A l.length c] 77)) := (Below.refl _ _).alloc (Nat.le_refl _) _
  have b3 := b2.alloc b2.size (.cells #[.int .i64 s, .slice A l.length c] 77)
  have D3 := ((hD.keep hx0).keep hb2).keep hy
  have E3 := ((hE.keep hx0).keep hb2).keep hy
  have LDa := hide D3.range
  have LDb := hide E3.range
  cases ha2 : ask2B s l a b
  · have HX := hide ha2
    clear ha2
    go_wp2
    go_ret2
    exact ⟨by rw [ccI, HX.out]; rfl, b3⟩
  · have HX := hide ha2
    clear ha2
    go_wp2_with (first | (with_reducible refine wpList_load_da rfl 29 (.tmp 4) rfl (w.heap.size + 1) 0 rfl a _ LDa.out Try.underlying29 rfl (dInfo a) ?_) | (with_reducible refine wpList_load_da rfl 29 (.tmp 5) rfl (w.heap.size + 1 + 1) 0 rfl b _ LDb.out Try.underlying29 rfl (dInfo b) ?_))
    refine (costOf_any a b _).mono ?_
    rintro e w4 ⟨rfl, hb4⟩
    go_wp2
    go_ret2
    exact ⟨by rw [ccI, HX.out]; rfl, step_below hb4 b3⟩
end Go.Proofs.Ytncdgjaadlpncaa
