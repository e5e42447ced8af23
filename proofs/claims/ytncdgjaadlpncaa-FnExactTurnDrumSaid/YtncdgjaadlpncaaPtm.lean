import Derived.Test.YtncdgjaadlpncaaCpn
namespace Go.Proofs.Ytncdgjaadlpncaa
open Go.RowKit

/-- three values come back; what there was is as it was -/
def Trip (x y z : Value) (w : World) (e : Ending) (w' : World) : Prop := e = .returned (.tuple #[x, y, z]) ∧ Below w.heap.size w w'
/-- the pins of p that q has not -/
def mvD (p q : Nat → Int) (i : Nat) : Int := bits .andNot .u32 (p i) (q i)
theorem mv_wf (p q : Nat → Int) : DWF (mvD p q) := fun _ _ => bounds_u32 (wf_bits .andNot .u32 _ _)
def mvI (p q : Nat → Int) : Int := cntI (mvD p q)
def ask2B (s : Int) (l : List (Int × Int)) (a b : Nat → Int) : Bool := frB s l && (drB s l.length a && drB s l.length b)

set_option maxRecDepth 20000 in
set_option maxHeartbeats 1000000 in
theorem l02Moves_any (g h : Nat) (a b : Nat → Int) (w : World) (hA : Dr w g 29 a) (hB : Dr w h 29 b) :
    Calls Try.prog 102 #[.pointer (some ⟨g, 0, none⟩), .pointer (some ⟨h, 0, none⟩)] w fun e w' => e = .returned (.int .i64 (mvI b a)) ∧ Below w.heap.size w w' := by
  go_enter Try.func102, Try.ntmps102
  go_wp2_with fail
  go_loopw [5, 6] (fun n i wr => ∃ k : Nat, k ≤ 96 ∧ i = .int .i64 k ∧ n = .int .i64 (cntT (mvD b a) k : Nat) ∧ Below w.heap.size w wr)
    (fun _ i _ => 96 - (intOf i).toNat)
  case atStart => exact ⟨0, Nat.zero_le _, rfl, rfl, Below.refl _ _⟩
  case round =>
    obtain ⟨k, hk, rfl, rfl, hb⟩ := hrel
    by_cases hlt : k < 96
    · have c1 := Later.cell ((hA.keep hb).cell hlt)
      have c2 := Later.cell ((hB.keep hb).cell hlt)
      have hsz := hb.size
      obtain ⟨x, hxe⟩ : ∃ x : Nat, mvD b a k = (x : Int) := ⟨(mvD b a k).toNat, by have := mv_wf b a k hlt; omega⟩
      have hxb : x ≤ 4294967295 := by have := mv_wf b a k hlt; omega
      have HS := hide (show cntT (mvD b a) (k + 1) = cntT (mvD b a) k + pc x by simp [cntT, hxe])
      have h1 := cntT_le (mvD b a) (mv_wf b a) k (by omega)
      have h2 := pc_le x
      have hxx : bits .andNot .u32 (b k) (a k) = (x : Int) := hxe
      clear hxe
      have hw1 : IntKind.i64.wrap ((cntT (mvD b a) k : Int) + (pc x : Int)) = (cntT (mvD b a) k : Int) + (pc x : Int) := IntWalk.i64_in _ (by omega)
      go_wp2_with fail
      refine wp_region_later (by kernel_rfl) (by kernel_rfl) ?_
      repeat (go_big_quiet_step ((go_at_call 84; with_reducible exact Later.same (l02Count_any x _ hxb))))
      refine wpQuiet_nil ?_
      rintro _ ⟨⟨wq, hq⟩, rfl⟩
      go_wp2
      go_roundw
      case rel => exact ⟨k + 1, hlt, by go_num, by rw [HS.out]; rfl, hb.trans (hq.mono hsz)⟩
      case measure => simp [intOf]; omega
    · obtain rfl : k = 96 := by omega
      go_wp2
      go_ret
      exact ⟨rfl, hb⟩

set_option maxRecDepth 20000 in
set_option maxHeartbeats 1000000 in
theorem minus_any (p q : Nat → Int) (w : World) :
    Calls Try.prog 103 #[.agg (da p), .agg (da q)] w fun e w' => e = .returned (.agg (da (mvD p q))) ∧ Below w.heap.size w w' := by
  have hz := zeroDrum
  have hb0 : Below w.heap.size w (((w.alloc (.cells (da p) 29)).alloc (.cells (da q) 29)).alloc (.cells za 29)) := (((Below.refl _ _).alloc (Nat.le_refl _) _).alloc (by simp) _).alloc (by simp; omega) _
  have P0 : Dr (((w.alloc (.cells (da p) 29)).alloc (.cells (da q) 29)).alloc (.cells za 29)) w.heap.size 29 p := heap_old' (heap_old' (heap_new' _ _ _ rfl))
  have Q0 : Dr (((w.alloc (.cells (da p) 29)).alloc (.cells (da q) 29)).alloc (.cells za 29)) (w.heap.size + 1) 29 q := heap_old' (heap_new' _ _ _ (by simp))
  have Z0 : Dr (((w.alloc (.cells (da p) 29)).alloc (.cells (da q) 29)).alloc (.cells za 29)) (w.heap.size + 1 + 1) 29 (fun _ => 0) := by rw [za_eq]; exact heap_new' _ _ _ (by simp)
  have HR0 := hide Q0.range
  have HI := hide (fun k hk => indexD q k hk)
  go_enter Try.func103, Try.ntmps103
  go_wp2_with (with_reducible refine wpList_load_da rfl 29 (.tmp 3) rfl (w.heap.size + 1) 0 rfl q _ HR0.out Try.underlying29 rfl (dInfo q) ?_)
  clear hz
  go_loopw [5, 6, 8] (fun _ _ i wr => ∃ k : Nat, k ≤ 96 ∧ i = .int .i64 k ∧ Dr wr w.heap.size 29 (fun i => if i < k then mvD p q i else p i) ∧ Dr wr (w.heap.size + 1 + 1) 29 (fun _ => 0) ∧ Below w.heap.size w wr)
    (fun _ _ i _ => 96 - (intOf i).toNat)
  case atStart => exact ⟨0, Nat.zero_le _, rfl, P0, Z0, hb0⟩
  case round =>
    obtain ⟨k, hk, rfl, D1, D2, hb⟩ := hrel
    by_cases hlt : k < 96
    · have hx := HI.out k hlt
      have c1 : wr.cell? ⟨w.heap.size, k, none⟩ = some (.int .u32 (p k)) := by rw [D1.cell hlt, if_neg (Nat.lt_irrefl k)]
      have f1 := D1.frozen k
      go_wp2
      go_roundw
      case rel =>
        refine ⟨k + 1, hlt, by go_num, (D1.set k _).congr fun i hi => ?_, D2.other (by omega) _, hb.setCell (p := ⟨_, _, none⟩) (by dsimp only; omega) _⟩
        change (if i = k then mvD p q k else _) = _
        by_cases e : i = k
        · subst e; rw [if_pos rfl, if_pos (by omega)]
        · rw [if_neg e]
          by_cases h2 : i < k
          · rw [if_pos h2, if_pos (by omega)]
          · rw [if_neg h2, if_neg (by omega)]
      case measure => simp [intOf]; omega
    · obtain rfl : k = 96 := by omega
      have R3 : Dr wr w.heap.size 29 (mvD p q) := D1.congr fun i hi => by rw [if_pos hi]
      have HR3 := hide R3.range
      have R2 : wr.heap[w.heap.size + 1 + 1]? = some (.cells (da fun _ => 0) 29 (0, 0)) := D2
      have HR2 := hide R2
      clear R3 R2
      go_wp2_with (first | (with_reducible refine wpList_load_da rfl 29 (.tmp 2) rfl w.heap.size 0 rfl (mvD p q) _ HR3.out Try.underlying29 rfl (dInfo (mvD p q)) ?_) | (with_reducible refine wpList_store_row rfl 29 (.tmp 4) (.tmp 19) rfl (w.heap.size + 1 + 1) (da (mvD p q)) rfl rfl 29 _ HR2.out (by rw [da_size]; exact info29) (by rw [da_size, da_size]) (da_one _) ?_))
      exact bodyPost_ret (v := .agg (da (mvD p q))) (results_cell_row Try.results103 _ _ (w.heap.size + 1 + 1) 29 (da (mvD p q)) (0, 0) _ (by simp [Act.put]) (setRow_heap _ _ _ _ _ _ HR2.out) Try.underlying29 rfl (by rw [da_size]; exact info29)) rfl ⟨rfl, below_setRow hb (by omega)⟩

def mvP (s : Int) (l : List (Int × Int)) (a b p q : Nat → Int) : Int := onlyI (ask2B s l a b) (mvI p q)
theorem machine2_any (s : Int) (A : Option Addr) (c : Nat) (l : List (Int × Int)) (a b : Nat → Int) (w : World) (hA : HA w A l) (hn : l.length ≤ 1048576) (hwf : HWF l) (hs : -32768 ≤ s ∧ s ≤ 32767) (ha : DWF a) (hb : DWF b) (g : Nat) (hg : g = w.heap.size) :
    Calls Try.prog 54 #[.agg #[.int .i16 s, .slice A l.length c], .slice (some ⟨g, 0, none⟩) 2 2] (w.alloc (.cells (da a ++ da b) 29)) (Mach s A l.length c (ask2B s l a b) (w.alloc (.cells (da a ++ da b) 29))) := by
  subst hg
  have hb0 : Below w.heap.size w (w.alloc (.cells (da a ++ da b) 29)) := (Below.refl _ _).alloc (Nat.le_refl _) _
  have hd1 : ∀ j, j < [a, b].length → DWF ([a, b].getD j (fun _ => 0)) := by
    intro j hj
    have hj2 : j < 2 := hj
    match j, hj2 with
    | 0, _ => exact ha
    | 1, _ => exact hb
  have h := machineD_any s A c l w.heap.size 2 [a, b] _ (hA.below hb0) hn hwf hs (LD2 w a b) hd1 (by simp)
  have e : (frB s l && drsB s l.length [a, b]) = ask2B s l a b := by simp [drsB, ask2B]
  rw [e] at h
  exact h
end Go.Proofs.Ytncdgjaadlpncaa
