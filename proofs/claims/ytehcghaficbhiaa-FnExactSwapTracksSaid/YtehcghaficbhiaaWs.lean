import Derived.Test.YtehcghaficbhiaaWf
import Derived.Deep.CutRange
namespace Go.Proofs.Ytehcghaficbhiaa
open Go.RowKit

theorem results_fd {fn : Func} {p q r : Tmp} (h : fn.results = #[.cell p 31, .cell q 32, .tmp r]) (tmps : Array Value) (w : World) (g g' : Nat) (t t' : TypeId) (cs : Array Value) (z : Nat → Int) (c : Value) (hi : cs.size = 2)
    (hp : tmps.getD p undef = .pointer (some ⟨g, 0, none⟩)) (hq : tmps.getD q undef = .pointer (some ⟨g', 0, none⟩)) (hr : tmps.getD r undef = c) (hg : w.heap[g]? = some (.cells cs t (0, 0))) (hg' : w.heap[g']? = some (.cells (da z) t' (0, 0))) :
    (results fn tmps).run Try.prog w = .ok (.tuple #[.agg cs, .agg (da z), c]) w := by
  have hp' : tmps[p]?.getD undef = .pointer (some ⟨g, 0, none⟩) := by simpa using hp
  have hq' : tmps[q]?.getD undef = .pointer (some ⟨g', 0, none⟩) := by simpa using hq
  have hr' : tmps[r]?.getD undef = c := by simpa using hr
  simp [results, h, hp', hq', hr', asAddr, run_loadVar_row w g t 31 cs (0, 0) _ hg Try.underlying31 rfl (by rw [hi]; exact infoFr), run_loadVar_row w g' t' 32 (da z) (0, 0) _ hg' Try.underlying32 rfl (by rw [da_size]; exact info32)]
theorem infoF2 (a b : Value) : (Try.prog.info? 31).map (·.size) = some #[a, b].size := infoFr
theorem sz22 (a b c d : Value) : #[a, b].size = #[c, d].size := rfl
theorem oneF (s : Int) (C : Option Addr) (n q : Nat) : (#[.int .i16 s, .slice C n q] : Array Value).all (·.oneCell') = true := by simp [Value.oneCell']
theorem own_keepR {w : World} {base g n : Nat} {e : TypeId} {size : Nat} {v : Value} {xs : List Value} (h : w.ownsRow base e size v n xs) (hg : g < base) (cs : Array Value) : (w.setRow g cs).ownsRow base e size v n xs :=
  h.kept (row := some g) ⟨rfl, rfl, rfl, by simp, fun k _ hk => setRow_other _ _ _ _ (fun e => hk (by rw [e]))⟩ (by
    cases hv : v.ownBlock with
    | none => exact Or.inl rfl
    | some k => exact Or.inr (fun e => by have h1 := h.lt k hv; cases e; omega))
def wtC (s : Int) (l : List (Int × Int)) (d : Nat → Int) (x : Int) : Int := if askB s l d then (if plB s l.length 0 x then (if useT d x.toNat 96 || l.length == 1 then 4 else 0) else 2) else 1
def wtS (s : Int) (l : List (Int × Int)) (d : Nat → Int) (x : Int) : Int := if wtC s l d x = 0 then s else 0
def wtL (s : Int) (l : List (Int × Int)) (d : Nat → Int) (x : Int) : List (Int × Int) := if wtC s l d x = 0 then dropL l x.toNat else []
def wtD (s : Int) (l : List (Int × Int)) (d : Nat → Int) (x : Int) : Nat → Int := if wtC s l d x = 0 then drT d x.toNat 96 else fun _ => 0
/-- a frame of the call's own, a drum and a code come back -/
def FdC (rs : Int) (rl : List (Int × Int)) (rd : Nat → Int) (rc : Int) (w : World) (e : Ending) (w' : World) : Prop := ∃ (C : Option Addr) (q : Nat), e = .returned (.tuple #[.agg #[.int .i16 rs, .slice C rl.length q], .agg (da rd), .int .i64 rc]) ∧ w'.ownsRow w.heap.size 49 2 (.slice C rl.length q) rl.length (hcells rl) ∧ Below w.heap.size w w'
theorem pl_step0 {s x : Int} {l : List (Int × Int)} {d : Nat → Int} (h : askB s l d = true) : plB s l.length 0 x = inB x 0 ((l.length : Int) - 1) := by
  have hl := (ask_all h).1
  have h2 : inB 0 0 (s - 1) = true := by simp [inB]; omega
  rw [plB, h2, Bool.true_and]

set_option maxRecDepth 20000 in
set_option maxHeartbeats 4000000 in
theorem specWithoutTrack_any (s : Int) (A : Option Addr) (_c : Nat) (l : List (Int × Int)) (d : Nat → Int) (x : Int) (w : World) (hA : HA w A l) (hn : l.length ≤ 1048576) (hwf : HWF l) (hs : -32768 ≤ s ∧ s ≤ 32767) (hd : DWF d) :
    Calls Try.prog 14 #[.agg #[.int .i16 s, .slice A l.length l.length], .agg (da d), .int .i64 x] w (FdC (wtS s l d x) (wtL s l d x) (wtD s l d x) (wtC s l d x) w) := by
  have hz := zeroDrum
  obtain ⟨X0, hX0⟩ : ∃ X, X = (((w.alloc (.cells #[.int .i16 s, .slice A l.length l.length] 31)).alloc (.cells (da d) 32)).alloc (.cells #[.int .i16 0, .slice none 0 0] 31)).alloc (.cells za 32) := ⟨_, rfl⟩
  have b0 : Below w.heap.size w X0 := by rw [hX0]; exact ((((Below.refl _ _).alloc (Nat.le_refl _) _).alloc (by simp) _).alloc (by simp; omega) _).alloc (by simp; omega) _
  have rA : X0.heap[w.heap.size]? = some (.cells #[.int .i16 s, .slice A l.length l.length] 31 (0, 0)) := by rw [hX0]; exact heap_old' (heap_old' (heap_old' (heap_alloc_new _ _)))
  have D0 : Dr X0 (w.heap.size + 1) 32 d := by rw [hX0]; exact heap_old' (heap_old' (heap_new' _ _ _ (by simp)))
  have RF0 : X0.heap[w.heap.size + 1 + 1]? = some (.cells #[.int .i16 0, .slice none 0 0] 31 (0, 0)) := by rw [hX0]; exact heap_old' (heap_new' _ _ _ (by simp))
  have RD0 : X0.heap[w.heap.size + 1 + 1 + 1]? = some (.cells (da fun _ => 0) 32 (0, 0)) := by rw [hX0, za_eq]; exact heap_new' _ _ _ (by simp)
  have hF0 : FP X0 w.heap.size s A l.length l.length := ⟨by rw [cell_of_row _ _ 0 _ _ _ rA] <;> simp, by rw [cell_of_row _ _ 1 _ _ _ rA] <;> simp⟩
  have hA0 := hA.below b0
  go_enter Try.func14, Try.ntmps14
  go_upto_region 1 with fail
  rw [← hX0]
  clear hX0 hz
  go_wp2_with fail
  refine (l02Place_any _ _ s A l.length l d 0 x _ hF0 D0 hA0 hn hwf hs hd).mono ?_
  rintro e w1 ⟨rfl, hb1⟩
  have b1 := step_below hb1 b0
  have F1 := hF0.keep hb1
  have D1 := D0.keep hb1
  have RF1 := (hb1.block _ (Array.getElem?_eq_some_iff.1 RF0).1).trans RF0
  have RD1 := (hb1.block _ (Array.getElem?_eq_some_iff.1 RD0).1).trans RD0
  have hA1 := hA0.below hb1
  cases ha : askB s l d
  · simp only [cod3]
    have hcc : wtC s l d x = 1 := by simp [wtC, ha]
    have HX := hide hcc
    have HS := hide (show wtS s l d x = 0 by simp [wtS, hcc])
    have HL := hide (show wtL s l d x = [] by simp [wtL, hcc])
    have HY := hide (show wtD s l d x = fun _ => 0 by simp [wtD, hcc])
    have hgl : w.heap.size + 1 + 1 + 1 < w1.heap.size := (Array.getElem?_eq_some_iff.1 RD1).1
    have RD2 : (w1.setRow (w.heap.size + 1 + 1) #[.int .i16 0, .slice none 0 0]).heap[w.heap.size + 1 + 1 + 1]? = some (.cells (da fun _ => 0) 32 (0, 0)) := (setRow_other _ _ _ _ (by omega)).trans RD1
    have HF := hide RF1
    have HZ := hide RD2
    have bE := below_setRow (cs := da fun _ => 0) (g := w.heap.size + 1 + 1 + 1) (below_setRow (cs := #[.int .i16 0, .slice none 0 0]) (g := w.heap.size + 1 + 1) b1 (by omega)) (by omega)
    clear hcc RD2 RF1 RD1 RF0 RD0 ha rA
    go_wp2_with (first | (with_reducible refine wpList_build0 rfl rfl ?_) | (with_reducible refine wpList_store_row rfl 31 (.tmp 6) (.tmp 16) rfl (w.heap.size + 1 + 1) #[.int .i16 0, .slice none 0 0] rfl rfl 31 _ HF.out (infoF2 _ _) (sz22 _ _ _ _) (oneF _ _ _ _) ?_) | (with_reducible refine wpList_store_row rfl 32 (.tmp 7) (.tmp 17) rfl (w.heap.size + 1 + 1 + 1) (da fun _ => 0) rfl rfl 32 _ HZ.out (by rw [da_size]; exact info32) (by simp only [da_size]) (da_one _) ?_))
    exact bodyPost_ret (v := .tuple #[.agg #[.int .i16 0, .slice none 0 0], .agg (da fun _ => 0), .int .i64 1]) (results_fd Try.results14 _ _ (w.heap.size + 1 + 1) (w.heap.size + 1 + 1 + 1) _ _ #[.int .i16 0, .slice none 0 0] _ _ rfl (by simp [Act.put]) (by simp [Act.put]) (by simp [Act.put]) ((setRow_other _ _ _ _ (by omega)).trans (setRow_heap _ _ _ _ _ _ HF.out)) (setRow_heap _ _ _ _ _ _ HZ.out)) rfl ⟨none, 0, by rw [HY.out, HX.out, HS.out, HL.out]; rfl, by rw [HL.out]; exact World.ownsRow_nil _ _ _ _, bE⟩
  cases hp : plB s l.length 0 x
  · simp only [cod3]
    have hcc : wtC s l d x = 2 := by simp [wtC, ha, hp]
    have HX := hide hcc
    have HS := hide (show wtS s l d x = 0 by simp [wtS, hcc])
    have HL := hide (show wtL s l d x = [] by simp [wtL, hcc])
    have HY := hide (show wtD s l d x = fun _ => 0 by simp [wtD, hcc])
    have hgl : w.heap.size + 1 + 1 + 1 < w1.heap.size := (Array.getElem?_eq_some_iff.1 RD1).1
    have RD2 : (w1.setRow (w.heap.size + 1 + 1) #[.int .i16 0, .slice none 0 0]).heap[w.heap.size + 1 + 1 + 1]? = some (.cells (da fun _ => 0) 32 (0, 0)) := (setRow_other _ _ _ _ (by omega)).trans RD1
    have HF := hide RF1
    have HZ := hide RD2
    have bE := below_setRow (cs := da fun _ => 0) (g := w.heap.size + 1 + 1 + 1) (below_setRow (cs := #[.int .i16 0, .slice none 0 0]) (g := w.heap.size + 1 + 1) b1 (by omega)) (by omega)
    clear hcc RD2 RF1 RD1 RF0 RD0 ha hp rA
    go_wp2_with (first | (with_reducible refine wpList_build0 rfl rfl ?_) | (with_reducible refine wpList_store_row rfl 31 (.tmp 6) (.tmp 16) rfl (w.heap.size + 1 + 1) #[.int .i16 0, .slice none 0 0] rfl rfl 31 _ HF.out (infoF2 _ _) (sz22 _ _ _ _) (oneF _ _ _ _) ?_) | (with_reducible refine wpList_store_row rfl 32 (.tmp 7) (.tmp 17) rfl (w.heap.size + 1 + 1 + 1) (da fun _ => 0) rfl rfl 32 _ HZ.out (by rw [da_size]; exact info32) (by simp only [da_size]) (da_one _) ?_))
    exact bodyPost_ret (v := .tuple #[.agg #[.int .i16 0, .slice none 0 0], .agg (da fun _ => 0), .int .i64 2]) (results_fd Try.results14 _ _ (w.heap.size + 1 + 1) (w.heap.size + 1 + 1 + 1) _ _ #[.int .i16 0, .slice none 0 0] _ _ rfl (by simp [Act.put]) (by simp [Act.put]) (by simp [Act.put]) ((setRow_other _ _ _ _ (by omega)).trans (setRow_heap _ _ _ _ _ _ HF.out)) (setRow_heap _ _ _ _ _ _ HZ.out)) rfl ⟨none, 0, by rw [HY.out, HX.out, HS.out, HL.out]; rfl, by rw [HL.out]; exact World.ownsRow_nil _ _ _ _, bE⟩
  simp only [cod3]
  have hfa := ask_all ha
  obtain ⟨k0, t, hk0, hxt, _, htl⟩ := plB_nat hp
  have ht24 : t < 24 := by omega
  have hty : x.toNat = t := by omega
  clear hk0
  subst hxt
  have hx63 : (t : Int) ≤ 9223372036854775807 := by omega
  go_wp2_with fail
  refine (l03Uses_any _ t d _ D1 ht24 hd).mono ?_
  rintro e w2 ⟨rfl, hb2⟩
  have b2 := step_below hb2 b1
  have F2 := F1.keep hb2
  have D2 := D1.keep hb2
  have RF2 := (hb2.block _ (Array.getElem?_eq_some_iff.1 RF1).1).trans RF1
  have RD2 := (hb2.block _ (Array.getElem?_eq_some_iff.1 RD1).1).trans RD1
  have hA2 := hA1.below hb2
  have e2 := F2.2
  cases hu : useT d t 96
  case true =>
    have hcc : wtC s l d t = 4 := by simp [wtC, ha, hp, hu, hty]
    have HX := hide hcc
    have HS := hide (show wtS s l d t = 0 by simp [wtS, hcc])
    have HL := hide (show wtL s l d t = [] by simp [wtL, hcc])
    have HY := hide (show wtD s l d t = fun _ => 0 by simp [wtD, hcc])
    have hgl : w.heap.size + 1 + 1 + 1 < w2.heap.size := (Array.getElem?_eq_some_iff.1 RD2).1
    have RD3 : (w2.setRow (w.heap.size + 1 + 1) #[.int .i16 0, .slice none 0 0]).heap[w.heap.size + 1 + 1 + 1]? = some (.cells (da fun _ => 0) 32 (0, 0)) := (setRow_other _ _ _ _ (by omega)).trans RD2
    have HF := hide RF2
    have HZ := hide RD3
    have bE := below_setRow (cs := da fun _ => 0) (g := w.heap.size + 1 + 1 + 1) (below_setRow (cs := #[.int .i16 0, .slice none 0 0]) (g := w.heap.size + 1 + 1) b2 (by omega)) (by omega)
    clear hcc RD3 RF2 RD2 RF0 RD0 RF1 ha hp rA hu
    go_wp2_with (first | (with_reducible refine wpList_build0 rfl rfl ?_) | (with_reducible refine wpList_store_row rfl 31 (.tmp 6) (.tmp 27) rfl (w.heap.size + 1 + 1) #[.int .i16 0, .slice none 0 0] rfl rfl 31 _ HF.out (infoF2 _ _) (sz22 _ _ _ _) (oneF _ _ _ _) ?_) | (with_reducible refine wpList_store_row rfl 32 (.tmp 7) (.tmp 28) rfl (w.heap.size + 1 + 1 + 1) (da fun _ => 0) rfl rfl 32 _ HZ.out (by rw [da_size]; exact info32) (by simp only [da_size]) (da_one _) ?_))
    exact bodyPost_ret (v := .tuple #[.agg #[.int .i16 0, .slice none 0 0], .agg (da fun _ => 0), .int .i64 4]) (results_fd Try.results14 _ _ (w.heap.size + 1 + 1) (w.heap.size + 1 + 1 + 1) _ _ #[.int .i16 0, .slice none 0 0] _ _ rfl (by simp [Act.put]) (by simp [Act.put]) (by simp [Act.put]) ((setRow_other _ _ _ _ (by omega)).trans (setRow_heap _ _ _ _ _ _ HF.out)) (setRow_heap _ _ _ _ _ _ HZ.out)) rfl ⟨none, 0, by rw [HY.out, HX.out, HS.out, HL.out]; rfl, by rw [HL.out]; exact World.ownsRow_nil _ _ _ _, bE⟩
  by_cases hl1 : l.length = 1
  · have hl2 : ((l.length : Int) == 1) = true := by simp [hl1]
    have hcc : wtC s l d t = 4 := by unfold wtC; rw [if_pos ha, if_pos hp, if_pos (by simp [hl1])]
    have HX := hide hcc
    have HS := hide (show wtS s l d t = 0 by simp [wtS, hcc])
    have HL := hide (show wtL s l d t = [] by simp [wtL, hcc])
    have HY := hide (show wtD s l d t = fun _ => 0 by simp [wtD, hcc])
    have hgl : w.heap.size + 1 + 1 + 1 < w2.heap.size := (Array.getElem?_eq_some_iff.1 RD2).1
    have RD3 : (w2.setRow (w.heap.size + 1 + 1) #[.int .i16 0, .slice none 0 0]).heap[w.heap.size + 1 + 1 + 1]? = some (.cells (da fun _ => 0) 32 (0, 0)) := (setRow_other _ _ _ _ (by omega)).trans RD2
    have HF := hide RF2
    have HZ := hide RD3
    have bE := below_setRow (cs := da fun _ => 0) (g := w.heap.size + 1 + 1 + 1) (below_setRow (cs := #[.int .i16 0, .slice none 0 0]) (g := w.heap.size + 1 + 1) b2 (by omega)) (by omega)
    clear hcc RD3 RF2 RD2 RF0 RD0 RF1 ha hp rA hu hl1
    go_wp2_with (first | (with_reducible refine wpList_build0 rfl rfl ?_) | (with_reducible refine wpList_store_row rfl 31 (.tmp 6) (.tmp 27) rfl (w.heap.size + 1 + 1) #[.int .i16 0, .slice none 0 0] rfl rfl 31 _ HF.out (infoF2 _ _) (sz22 _ _ _ _) (oneF _ _ _ _) ?_) | (with_reducible refine wpList_store_row rfl 32 (.tmp 7) (.tmp 28) rfl (w.heap.size + 1 + 1 + 1) (da fun _ => 0) rfl rfl 32 _ HZ.out (by rw [da_size]; exact info32) (by simp only [da_size]) (da_one _) ?_))
    exact bodyPost_ret (v := .tuple #[.agg #[.int .i16 0, .slice none 0 0], .agg (da fun _ => 0), .int .i64 4]) (results_fd Try.results14 _ _ (w.heap.size + 1 + 1) (w.heap.size + 1 + 1 + 1) _ _ #[.int .i16 0, .slice none 0 0] _ _ rfl (by simp [Act.put]) (by simp [Act.put]) (by simp [Act.put]) ((setRow_other _ _ _ _ (by omega)).trans (setRow_heap _ _ _ _ _ _ HF.out)) (setRow_heap _ _ _ _ _ _ HZ.out)) rfl ⟨none, 0, by rw [HY.out, HX.out, HS.out, HL.out]; rfl, by rw [HL.out]; exact World.ownsRow_nil _ _ _ _, bE⟩
  have hl2 : ((l.length : Int) == 1) = false := by simp; omega
  have hcc : wtC s l d t = 0 := by simp [wtC, ha, hp, hu, hty, hl1]
  have HX := hide hcc
  have HS := hide (show wtS s l d t = s by simp [wtS, hcc])
  have HL := hide (show wtL s l d t = dropL l t by simp [wtL, hcc, hty])
  have HY := hide (show wtD s l d t = drT d t 96 by simp [wtD, hcc, hty])
  clear hcc ha hp hu hl1 hfa
  have hpw := pow_u32 t (by omega)
  have hpm := pow_sub t (by omega)
  have KB := fun W => l03Bit_any t W ht24
  go_wp2_with (go_at_call 28; with_reducible refine (KB _).mono ?_; rintro e w' ⟨rfl, rfl⟩)
  clear KB e2
  go_loopw [11] (fun i wr => ∃ k : Nat, k ≤ 96 ∧ i = .int .i64 k ∧ Dr wr (w.heap.size + 1) 32 (drT d t k) ∧ FP wr w.heap.size s A l.length l.length ∧ wr.heap[w.heap.size + 1 + 1]? = some (.cells #[.int .i16 0, .slice none 0 0] 31 (0, 0)) ∧ wr.heap[w.heap.size + 1 + 1 + 1]? = some (.cells (da fun _ => 0) 32 (0, 0)) ∧ Below w.heap.size w wr)
    (fun i _ => 96 - (intOf i).toNat)
  case atStart => exact ⟨0, Nat.zero_le _, rfl, by rw [drT_zero]; exact D2, F2, RF2, RD2, b2⟩
  case round =>
    obtain ⟨k, hk, rfl, E1, E2, E3, E4, hb⟩ := hrel
    by_cases hlt : k < 96
    · have hd1 : Below wr.heap.size wr wr.drew := (Below.refl _ _).drew
      have hki : (k : Int) < 96 := by omega
      go_wp2_with fail
      refine wp_region_still_tail 14 (by kernel_rfl) (by kernel_rfl) ?_
      change wpStill _ _ wr.drew (fun a' => wpList _ _ _ _ a' wr.drew) _ _
      simp only [List.take_succ_cons, List.take_zero, List.drop_succ_cons, List.drop_zero]
      have E1d := E1.keep hd1
      have E2d := E2.keep hd1
      have E3d : wr.drew.heap[w.heap.size + 1 + 1]? = some (.cells #[.int .i16 0, .slice none 0 0] 31 (0, 0)) := E3
      have E4d : wr.drew.heap[w.heap.size + 1 + 1 + 1]? = some (.cells (da fun _ => 0) 32 (0, 0)) := E4
      have hbd := hb.drew
      clear E1 E2 E3 E4 hb hd1
      generalize wr.drew = wd at *
      have c3 := E1d.cell hlt
      rw [drT_at] at c3
      have f4 := E1d.frozen k
      have HQ := hide (E1d.set k (dropD d t k))
      have HF3 := hide E3d
      have HZ3 := hide E4d
      clear E3d E4d
      repeat still_step
      refine wpStill_nil ?_
      go_wp2
      go_roundw
      case rel => exact ⟨k + 1, hlt, by go_num, HQ.out.congr fun i _ => drT_step d t k i, ⟨(cell_block (heap_setCell_other _ _ _ _ (by dsimp only; omega))).trans E2d.1, (cell_block (heap_setCell_other _ _ _ _ (by dsimp only; omega))).trans E2d.2⟩, (heap_setCell_other _ _ _ _ (by dsimp only; omega)).trans HF3.out, (heap_setCell_other _ _ _ _ (by dsimp only; omega)).trans HZ3.out, hbd.setCell (p := ⟨_, _, none⟩) (by dsimp only; omega) _⟩
      case measure => simp [intOf]; omega
    · obtain rfl : k = 96 := by omega
      have hAw := hA.below hb
      have KL := fun W (h : Below wr.heap.size wr W) => l03Less_any w.heap.size s A l t W (E2.keep h) (hAw.below h) hn htl
      have hd1 : Below wr.heap.size wr wr.drew := (Below.refl _ _).drew
      have hSr := (E1.keep hd1).range
      go_wp2_with fail
      refine wp_region_held_drew (S := fun w' => w'.rangeAt (w.heap.size + 1) 0 (dv (drT d t 96))) (by kernel_rfl) hSr fun hS1 => ?_
      refine wpAnyH_take (i := 0) (v := .int .i64 t) rfl (by kernel_rfl) (by kernel_rfl) (by kernel_rfl) (fun _ _ _ h => h) (Or.inl ⟨by rfl, fun w' _ => by go_simp⟩) hS1 ?_
      change wpAnyH _ _ _ _ _ _ _ (Act.put _ (some 50) _) _
      simp only [Act.put, List.setIfInBounds_toArray, List.set_cons_zero, List.set_cons_succ]
      refine wpAnyH_take (i := 2) rfl (by kernel_rfl) (by kernel_rfl) (by kernel_rfl) (fun _ _ _ h => h) (yieldsIf_load_mid (by rfl) _ _ rfl (w.heap.size + 1) 0 rfl (dv (drT d t 96)) _ (fun _ h => h) Try.underlying32 rfl (dInfo (drT d t 96))) hS1 ?_
      simp only [Act.put, List.setIfInBounds_toArray, List.set_cons_zero, List.set_cons_succ]
      refine wpAnyH_ready (rs := [1]) (by kernel_rfl) (by simp) (AllReadyH.cons rfl ?_ AllReadyH.nil)
      intro K hK
      rw [if_pos (by rfl)]
      go_simp
      refine (KL _ hd1).mono ?_
      rintro e w6 ⟨C6, q6, rfl, own6, hb6'⟩
      have hb6 := step_below hb6' hd1
      have b6 := step_below hb6 hb
      have D6 := E1.keep hb6
      have RF6 := (hb6.block _ (Array.getElem?_eq_some_iff.1 E3).1).trans E3
      have RD6 := (hb6.block _ (Array.getElem?_eq_some_iff.1 E4).1).trans E4
      have hg3 : w.heap.size + 1 + 1 + 1 < wr.heap.size := (Array.getElem?_eq_some_iff.1 E4).1
      refine hK.out _ _ D6.range (fun hS2 => ?_)
      clear hK K hS1
      refine wpAnyH_ready (rs := [3]) (by kernel_rfl) (by simp) (AllReadyH.cons rfl ?_ AllReadyH.nil)
      intro K hK
      rw [if_pos (by rfl)]
      refine wp_store_row 31 (.tmp 6) (.tmp 51) rfl (w.heap.size + 1 + 1) #[.int .i16 s, .slice C6 (dropL l t).length q6] rfl rfl 31 _ RF6 (infoF2 _ _) (sz22 _ _ _ _) (oneF _ _ _ _) ?_
      have RF7 := setRow_heap _ _ _ #[.int .i16 s, .slice C6 (dropL l t).length q6] _ _ RF6
      have RD7 : (w6.setRow (w.heap.size + 1 + 1) #[.int .i16 s, .slice C6 (dropL l t).length q6]).heap[w.heap.size + 1 + 1 + 1]? = some (.cells (da fun _ => 0) 32 (0, 0)) := (setRow_other _ _ _ _ (by omega)).trans RD6
      have D7 : Dr (w6.setRow (w.heap.size + 1 + 1) #[.int .i16 s, .slice C6 (dropL l t).length q6]) (w.heap.size + 1) 32 (drT d t 96) := (setRow_other _ _ _ _ (by omega)).trans D6
      refine hK.out _ _ D7.range (fun hS3 => ?_)
      clear hK K hS2
      refine wpAnyH_ready (rs := [4]) (by kernel_rfl) (by simp) (AllReadyH.cons rfl ?_ AllReadyH.nil)
      intro K hK
      rw [if_pos (by rfl)]
      refine wp_store_row 32 (.tmp 7) (.tmp 52) rfl (w.heap.size + 1 + 1 + 1) (da (drT d t 96)) rfl rfl 32 _ RD7 (by rw [da_size]; exact info32) (by simp only [da_size]) (da_one _) ?_
      have RF8 : ((w6.setRow (w.heap.size + 1 + 1) #[.int .i16 s, .slice C6 (dropL l t).length q6]).setRow (w.heap.size + 1 + 1 + 1) (da (drT d t 96))).heap[w.heap.size + 1 + 1]? = some (.cells #[.int .i16 s, .slice C6 (dropL l t).length q6] 31 (0, 0)) := (setRow_other _ _ _ _ (by omega)).trans RF7
      have RD8 := setRow_heap _ _ _ (da (drT d t 96)) _ _ RD7
      have D8 : Dr ((w6.setRow (w.heap.size + 1 + 1) #[.int .i16 s, .slice C6 (dropL l t).length q6]).setRow (w.heap.size + 1 + 1 + 1) (da (drT d t 96))) (w.heap.size + 1) 32 (drT d t 96) := (setRow_other _ _ _ _ (by omega)).trans D7
      refine hK.out _ _ D8.range (fun hS4 => ?_)
      clear hK K hS3
      refine wpAnyH_take (i := 5) (v := .int .i64 0) rfl (by kernel_rfl) (by kernel_rfl) (by kernel_rfl) (fun _ _ _ h => h) (Or.inl ⟨by rfl, fun w' _ => by go_simp⟩) hS4 ?_
      change wpAnyH _ _ _ _ _ _ _ (Act.put _ (some 8) _) _
      simp only [Act.put, List.setIfInBounds_toArray, List.set_cons_zero, List.set_cons_succ]
      refine wpAnyH_done (by kernel_rfl) ?_ _
      have HF8 := hide RF8
      have HZ8 := hide RD8
      have bE := below_setRow (cs := da (drT d t 96)) (g := w.heap.size + 1 + 1 + 1) (below_setRow (cs := #[.int .i16 s, .slice C6 (dropL l t).length q6]) (g := w.heap.size + 1 + 1) b6 (by omega)) (by omega)
      have hdrs : wr.drew.heap.size = wr.heap.size := rfl
      have ow := own_base (own_keepR (own_keepR own6 (by omega : w.heap.size + 1 + 1 < wr.drew.heap.size) #[.int .i16 s, .slice C6 (dropL l t).length q6]) (by omega : w.heap.size + 1 + 1 + 1 < wr.drew.heap.size) (da (drT d t 96))) (by have := hb.size; omega : w.heap.size ≤ wr.drew.heap.size)
      clear RF8 RD8 D8 RF7 RD7 D7 RF6 RD6 D6 E1 E2 E3 E4
      go_wp2
      exact bodyPost_ret (v := .tuple #[.agg #[.int .i16 s, .slice C6 (dropL l t).length q6], .agg (da (drT d t 96)), .int .i64 0]) (results_fd Try.results14 _ _ (w.heap.size + 1 + 1) (w.heap.size + 1 + 1 + 1) _ _ #[.int .i16 s, .slice C6 (dropL l t).length q6] _ _ rfl (by simp [Act.put]) (by simp [Act.put]) (by simp [Act.put]) HF8.out HZ8.out) rfl ⟨C6, q6, by rw [HY.out, HX.out, HS.out, HL.out], by rw [HL.out]; exact ow, bE⟩
end Go.Proofs.Ytehcghaficbhiaa
