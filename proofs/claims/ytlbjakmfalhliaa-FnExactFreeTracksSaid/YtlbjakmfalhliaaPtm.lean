import Derived.Test.YtlbjakmfalhliaaCpn
namespace Go.Proofs.Ytlbjakmfalhliaa
open Go.RowKit

/-- three values come back; what there was is as it was -/
def Trip (x y z : Value) (w : World) (e : Ending) (w' : World) : Prop := e = .returned (.tuple #[x, y, z]) ∧ Below w.heap.size w w'
/-- the pins of p that q has not -/
def mvD (p q : Nat → Int) (i : Nat) : Int := bits .andNot .u32 (p i) (q i)
theorem mv_wf (p q : Nat → Int) : DWF (mvD p q) := fun _ _ => bounds_u32 (wf_bits .andNot .u32 _ _)
def mvI (p q : Nat → Int) : Int := cntI (mvD p q)
def ask2B (s : Int) (l : List (Int × Int)) (a b : Nat → Int) : Bool := frB s l && (drB s l.length a && drB s l.length b)

set_option maxRecDepth 20000 in
set_option maxHeartbeats 1000000 in
theorem l02Moves_any (g h : Nat) (a b : Nat → Int) (w : World) (hA : Dr w g 37 a) (hB : Dr w h 37 b) :
    Calls Try.prog 67 #[.pointer (some ⟨g, 0, none⟩), .pointer (some ⟨h, 0, none⟩)] w fun e w' => e = .returned (.int .i64 (mvI b a)) ∧ Below w.heap.size w w' := by
  go_enter Try.func67, Try.ntmps67
  go_wp2_with fail
  go_loopw [5, 6] (fun n i wr => ∃ k : Nat, k ≤ 96 ∧ i = .int .i64 k ∧ n = .int .i64 (cntT (mvD b a) k : Nat) ∧ Below w.heap.size w wr)
    (fun _ i _ => 96 - (intOf i).toNat)
  case atStart => exact ⟨0, Nat.zero_le _, rfl, rfl, Below.refl _ _⟩
  case round =>
    obtain ⟨k, hk, rfl, rfl, hb⟩ := hrel
    by_cases hlt : k < 96
    · have c1 := Later.cell ((hA.keep hb).cell hlt)
      have c2 := Later.cell ((hB.keep hb).cell hlt)
      have hsz := hb.size
      obtain ⟨x, hxe⟩ : ∃ x : Nat, mvD b a k = (x : Int) := ⟨(mvD b a k).toNat, by have := mv_wf b a k hlt; omega⟩
      have hxb : x ≤ 4294967295 := by have := mv_wf b a k hlt; omega
      have HS := hide (show cntT (mvD b a) (k + 1) = cntT (mvD b a) k + pc x by simp [cntT, hxe])
      have h1 := cntT_le (mvD b a) (mv_wf b a) k (by omega)
      have h2 := pc_le x
      have hxx : bits .andNot .u32 (b k) (a k) = (x : Int) := hxe
      clear hxe
      have hw1 : IntKind.i64.wrap ((cntT (mvD b a) k : Int) + (pc x : Int)) = (cntT (mvD b a) k : Int) + (pc x : Int) := IntWalk.i64_in _ (by omega)
      go_wp2_with fail
      refine wp_region_later (by kernel_rfl) (by kernel_rfl) ?_
      repeat (go_big_quiet_step ((go_at_call 64; with_reducible exact Later.same (l02Count_any x _ hxb))))
      refine wpQuiet_nil ?_
      rintro _ ⟨⟨wq, hq⟩, rfl⟩
      go_wp2
      go_roundw
      case rel => exact ⟨k + 1, hlt, by go_num, by rw [HS.out]; rfl, hb.trans (hq.mono hsz)⟩
      case measure => simp [intOf]; omega
    · obtain rfl : k = 96 := by omega
      go_wp2
      go_ret
      exact ⟨rfl, hb⟩

set_option maxRecDepth 20000 in
set_option maxHeartbeats 1000000 in
theorem minus_any (p q : Nat → Int) (w : World) :
    Calls Try.prog 68 #[.agg (da p), .agg (da q)] w fun e w' => e = .returned (.agg (da (mvD p q))) ∧ Below w.heap.size w w' := by
  have hz := zeroDrum
  have hb0 : Below w.heap.size w (((w.alloc (.cells (da p) 37)).alloc (.cells (da q) 37)).alloc (.cells za 37)) := (((Below.refl _ _).alloc (Nat.le_refl _) _).alloc (by simp) _).alloc (by simp; omega) _
  have P0 : Dr (((w.alloc (.cells (da p) 37)).alloc (.cells (da q) 37)).alloc (.cells za 37)) w.heap.size 37 p := heap_old' (heap_old' (heap_new' _ _ _ rfl))
  have Q0 : Dr (((w.alloc (.cells (da p) 37)).alloc (.cells (da q) 37)).alloc (.cells za 37)) (w.heap.size + 1) 37 q := heap_old' (heap_new' _ _ _ (by simp))
  have Z0 : Dr (((w.alloc (.cells (da p) 37)).alloc (.cells (da q) 37)).alloc (.cells za 37)) (w.heap.size + 1 + 1) 37 (fun _ => 0) := by rw [za_eq]; exact heap_new' _ _ _ (by simp)
  have HR0 := hide Q0.range
  have HI := hide (fun k hk => indexD q k hk)
  go_enter Try.func68, Try.ntmps68
  go_wp2_with (with_reducible refine wpList_load_da rfl 37 (.tmp 3) rfl (w.heap.size + 1) 0 rfl q _ HR0.out Try.underlying37 rfl (dInfo q) ?_)
  clear hz
  go_loopw [5, 6, 8] (fun _ _ i wr => ∃ k : Nat, k ≤ 96 ∧ i = .int .i64 k ∧ Dr wr w.heap.size 37 (fun i => if i < k then mvD p q i else p i) ∧ Dr wr (w.heap.size + 1 + 1) 37 (fun _ => 0) ∧ Below w.heap.size w wr)
    (fun _ _ i _ => 96 - (intOf i).toNat)
  case atStart => exact ⟨0, Nat.zero_le _, rfl, P0, Z0, hb0⟩
  case round =>
    obtain ⟨k, hk, rfl, D1, D2, hb⟩ := hrel
    by_cases hlt : k < 96
    · have hx := HI.out k hlt
      have c1 : wr.cell? ⟨w.heap.size, k, none⟩ = some (.int .u32 (p k)) := by rw [D1.cell hlt, if_neg (Nat.lt_irrefl k)]
      have f1 := D1.frozen k
      go_wp2
      go_roundw
      case rel =>
        refine ⟨k + 1, hlt, by go_num, (D1.set k _).congr fun i hi => ?_, D2.other (by omega) _, hb.setCell (p := ⟨_, _, none⟩) (by dsimp only; omega) _⟩
        change (if i = k then mvD p q k else _) = _
        by_cases e : i = k
        · subst e; rw [if_pos rfl, if_pos (by omega)]
        · rw [if_neg e]
          by_cases h2 : i < k
          · rw [if_pos h2, if_pos (by omega)]
          · rw [if_neg h2, if_neg (by omega)]
      case measure => simp [intOf]; omega
    · obtain rfl : k = 96 := by omega
      have R3 : Dr wr w.heap.size 37 (mvD p q) := D1.congr fun i hi => by rw [if_pos hi]
      have HR3 := hide R3.range
      have R2 : wr.heap[w.heap.size + 1 + 1]? = some (.cells (da fun _ => 0) 37 (0, 0)) := D2
      have HR2 := hide R2
      clear R3 R2
      go_wp2_with (first | (with_reducible refine wpList_load_da rfl 37 (.tmp 2) rfl w.heap.size 0 rfl (mvD p q) _ HR3.out Try.underlying37 rfl (dInfo (mvD p q)) ?_) | (with_reducible refine wpList_store_row rfl 37 (.tmp 4) (.tmp 19) rfl (w.heap.size + 1 + 1) (da (mvD p q)) rfl rfl 37 _ HR2.out (by rw [da_size]; exact info37) (by rw [da_size, da_size]) (da_one _) ?_))
      exact bodyPost_ret (v := .agg (da (mvD p q))) (results_cell_row Try.results68 _ _ (w.heap.size + 1 + 1) 37 (da (mvD p q)) (0, 0) _ (by simp [Act.put]) (setRow_heap _ _ _ _ _ _ HR2.out) Try.underlying37 rfl (by rw [da_size]; exact info37)) rfl ⟨rfl, below_setRow hb (by omega)⟩

def mvP (s : Int) (l : List (Int × Int)) (a b p q : Nat → Int) : Int := onlyI (ask2B s l a b) (mvI p q)
set_option maxRecDepth 20000 in
set_option maxHeartbeats 1000000 in
theorem specPinsToMove_any (s : Int) (A : Option Addr) (c : Nat) (l : List (Int × Int)) (a b : Nat → Int) (w : World) (hA : HA w A l) (hn : l.length ≤ 1048576) (hwf : HWF l) (hs : -32768 ≤ s ∧ s ≤ 32767) (ha : DWF a) (hb : DWF b) :
    Calls Try.prog 36 #[.agg #[.int .i16 s, .slice A l.length c], .agg (da a), .agg (da b)] w (Trip (.int .i64 (mvP s l a b b a)) (.int .i64 (mvP s l a b a b)) (.int .i64 (codeI (ask2B s l a b))) w) := by
  have hb0 : Below w.heap.size w (((w.alloc (.cells #[.int .i16 s, .slice A l.length c] 30)).alloc (.cells (da a) 37)).alloc (.cells (da b) 37)) := (((Below.refl _ _).alloc (Nat.le_refl _) _).alloc (by simp) _).alloc (by simp; omega) _
  have hF : FP (((w.alloc (.cells #[.int .i16 s, .slice A l.length c] 30)).alloc (.cells (da a) 37)).alloc (.cells (da b) 37)) w.heap.size s A l.length c := ⟨by simp [go_sem], by simp [go_sem]⟩
  have hD : Dr (((w.alloc (.cells #[.int .i16 s, .slice A l.length c] 30)).alloc (.cells (da a) 37)).alloc (.cells (da b) 37)) (w.heap.size + 1) 37 a := heap_old' (heap_new' _ _ _ (by simp))
  have hE : Dr (((w.alloc (.cells #[.int .i16 s, .slice A l.length c] 30)).alloc (.cells (da a) 37)).alloc (.cells (da b) 37)) (w.heap.size + 1 + 1) 37 b := heap_new' _ _ _ (by simp)
  go_enter Try.func36, Try.ntmps36
  go_wp2_with fail
  refine (l02Frame_any _ s A c l _ hF (hA.below hb0) hn hwf hs).mono ?_
  rintro e w1 ⟨rfl, hb1⟩
  have b1 := step_below hb1 hb0
  have F1 := hF.keep hb1
  have D1 := hD.keep hb1
  have E1 := hE.keep hb1
  cases hf : frB s l
  · have HX := hide (show ask2B s l a b = false by simp [ask2B, hf])
    clear hf
    go_wp2
    go_ret3
    exact ⟨by rw [mvP, mvP, HX.out]; rfl, b1⟩
  have hfa := frB_all hf
  go_wp2_with fail
  refine (l02Drum_any _ _ s A l.length c a _ F1 D1 hfa.2.1.2 hfa.1 ha).mono ?_
  rintro e w2 ⟨rfl, hb2⟩
  have b2 := step_below hb2 b1
  have F2 := F1.keep hb2
  have D2 := D1.keep hb2
  have E2 := E1.keep hb2
  cases hg : drB s l.length a
  · have HX := hide (show ask2B s l a b = false by simp [ask2B, hg])
    clear hf hg hfa
    go_wp2
    go_ret3
    exact ⟨by rw [mvP, mvP, HX.out]; rfl, b2⟩
  go_wp2_with fail
  refine (l02Drum_any _ _ s A l.length c b _ F2 E2 hfa.2.1.2 hfa.1 hb).mono ?_
  rintro e w3 ⟨rfl, hb3⟩
  have b3 := step_below hb3 b2
  have D3 := D2.keep hb3
  have E3 := E2.keep hb3
  cases hh : drB s l.length b
  · have HX := hide (show ask2B s l a b = false by simp [ask2B, hh])
    clear hf hg hh hfa
    go_wp2
    go_ret3
    exact ⟨by rw [mvP, mvP, HX.out]; rfl, b3⟩
  · have HX := hide (show ask2B s l a b = true by simp [ask2B, hf, hg, hh])
    clear hf hg hh hfa
    go_wp2_with fail
    refine (l02Moves_any _ _ a b _ D3 E3).mono ?_
    rintro e w4 ⟨rfl, hb4⟩
    have b4 := step_below hb4 b3
    have D4 := D3.keep hb4
    have E4 := E3.keep hb4
    go_wp2_with fail
    refine (l02Moves_any _ _ b a _ E4 D4).mono ?_
    rintro e w5 ⟨rfl, hb5⟩
    go_wp2
    go_ret3
    exact ⟨by rw [mvP, mvP, HX.out]; rfl, step_below hb5 b4⟩

theorem machine2_any (s : Int) (A : Option Addr) (c : Nat) (l : List (Int × Int)) (a b : Nat → Int) (w : World) (hA : HA w A l) (hn : l.length ≤ 1048576) (hwf : HWF l) (hs : -32768 ≤ s ∧ s ≤ 32767) (ha : DWF a) (hb : DWF b) (g : Nat) (hg : g = w.heap.size) :
    Calls Try.prog 51 #[.agg #[.int .i16 s, .slice A l.length c], .slice (some ⟨g, 0, none⟩) 2 2] (w.alloc (.cells (da a ++ da b) 37)) (Mach s A l.length c (ask2B s l a b) (w.alloc (.cells (da a ++ da b) 37))) := by
  subst hg
  have hb0 : Below w.heap.size w (w.alloc (.cells (da a ++ da b) 37)) := (Below.refl _ _).alloc (Nat.le_refl _) _
  have hd1 : ∀ j, j < [a, b].length → DWF ([a, b].getD j (fun _ => 0)) := by
    intro j hj
    have hj2 : j < 2 := hj
    match j, hj2 with
    | 0, _ => exact ha
    | 1, _ => exact hb
  have h := machineD_any s A c l w.heap.size 2 [a, b] _ (hA.below hb0) hn hwf hs (LD2 w a b) hd1 (by simp)
  have e : (frB s l && drsB s l.length [a, b]) = ask2B s l a b := by simp [drsB, ask2B]
  rw [e] at h
  exact h
set_option maxRecDepth 20000 in
set_option maxHeartbeats 2000000 in
theorem implPinsToMove_any (s : Int) (A : Option Addr) (c : Nat) (l : List (Int × Int)) (a b : Nat → Int) (w : World) (hA : HA w A l) (hn : l.length ≤ 1048576) (hwf : HWF l) (hs : -32768 ≤ s ∧ s ≤ 32767) (ha : DWF a) (hb : DWF b) :
    Calls Try.prog 37 #[.agg #[.int .i16 s, .slice A l.length c], .agg (da a), .agg (da b)] w (Trip (.int .i64 (mvP s l a b b a)) (.int .i64 (mvP s l a b a b)) (.int .i64 (codeI (ask2B s l a b))) w) := by
  have hb0 : Below w.heap.size w (((w.alloc (.cells #[.int .i16 s, .slice A l.length c] 30)).alloc (.cells (da a) 37)).alloc (.cells (da b) 37)) := (((Below.refl _ _).alloc (Nat.le_refl _) _).alloc (by simp) _).alloc (by simp; omega) _
  have hD : Dr (((w.alloc (.cells #[.int .i16 s, .slice A l.length c] 30)).alloc (.cells (da a) 37)).alloc (.cells (da b) 37)) (w.heap.size + 1) 37 a := heap_old' (heap_new' _ _ _ (by simp))
  have hE : Dr (((w.alloc (.cells #[.int .i16 s, .slice A l.length c] 30)).alloc (.cells (da a) 37)).alloc (.cells (da b) 37)) (w.heap.size + 1 + 1) 37 b := heap_new' _ _ _ (by simp)
  have HRa := hide hD.range
  have HRb := hide hE.range
  go_enter Try.func37, Try.ntmps37
  go_wp2_with (first | (with_reducible refine wpList_load_da rfl 37 (.tmp 4) rfl (w.heap.size + 1) 0 rfl a _ HRa.out Try.underlying37 rfl (dInfo a) ?_) | (with_reducible refine wpList_load_da rfl 37 (.tmp 5) rfl (w.heap.size + 1 + 1) 0 rfl b _ HRb.out Try.underlying37 rfl (dInfo b) ?_) | (with_reducible refine wpList_build2 rfl (.tmp 13) (.tmp 14) rfl a b rfl rfl ?_))
  refine (machine2_any s A c l a b _ (hA.below hb0) hn hwf hs ha hb _ (by simp)).mono ?_
  rintro e w2 ⟨rfl, hb2⟩
  have hx0 : Below (((w.alloc (.cells #[.int .i16 s, .slice A l.length c] 30)).alloc (.cells (da a) 37)).alloc (.cells (da b) 37)).heap.size (((w.alloc (.cells #[.int .i16 s, .slice A l.length c] 30)).alloc (.cells (da a) 37)).alloc (.cells (da b) 37)) ((((w.alloc (.cells #[.int .i16 s, .slice A l.length c] 30)).alloc (.cells (da a) 37)).alloc (.cells (da b) 37)).alloc (.cells (da a ++ da b) 37)) := (Below.refl _ _).alloc (Nat.le_refl _) _
  have b2 := step_below hb2 (hb0.alloc hb0.size (.cells (da a ++ da b) 37))
  have hy : Below w2.heap.size w2 (w2.alloc (.cells #[.int .i64 s, .slice A l.length c] 71)) := (Below.refl _ _).alloc (Nat.le_refl _) _
  have b3 := b2.alloc b2.size (.cells #[.int .i64 s, .slice A l.length c] 71)
  have D3 := ((hD.keep hx0).keep hb2).keep hy
  have E3 := ((hE.keep hx0).keep hb2).keep hy
  have LDa := hide D3.later
  have LDb := hide E3.later
  cases ha2 : ask2B s l a b
  · have HX := hide ha2
    clear ha2
    go_wp2
    go_ret3
    exact ⟨by rw [mvP, mvP, HX.out]; rfl, b3⟩
  · have HX := hide ha2
    clear ha2
    go_wp2_with fail
    refine wp_region_later (by kernel_rfl) (by kernel_rfl) ?_
    repeat (first | (go_big_quiet_want; with_reducible refine quiet_load_da 37 (.tmp 5) rfl (.pointer (some ⟨w.heap.size + 1 + 1, 0, none⟩)) rfl (.agg (da b)) (by rintro _ ⟨p, rfl⟩; exact LDb.out p) ?_; go_simp; go_big_quiet_on) | (go_big_quiet_want; with_reducible refine quiet_load_da 37 (.tmp 4) rfl (.pointer (some ⟨w.heap.size + 1, 0, none⟩)) rfl (.agg (da a)) (by rintro _ ⟨p, rfl⟩; exact LDa.out p) ?_; go_simp; go_big_quiet_on) | go_big_quiet_step (first | (go_at_call 68; with_reducible exact Later.call (minus_any b a _)) | (go_at_call 68; with_reducible exact Later.call (minus_any a b _)) | (go_at_call 65; with_reducible exact Later.call (count_any (mvD b a) _ (mv_wf b a))) | (go_at_call 65; with_reducible exact Later.call (count_any (mvD a b) _ (mv_wf a b)))))
    refine wpQuiet_nil ?_
    rintro _ ⟨⟨wq, hq⟩, rfl⟩
    go_wp2
    go_ret3
    exact ⟨by rw [mvP, mvP, HX.out]; rfl, b3.trans (hq.mono b3.size)⟩
end Go.Proofs.Ytlbjakmfalhliaa
