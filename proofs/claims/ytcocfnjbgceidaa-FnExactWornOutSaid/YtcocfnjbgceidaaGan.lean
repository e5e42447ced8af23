import Derived.Test.YtcocfnjbgceidaaFits
import Derived.Great.FillDense
import Derived.Deep.RegionHeld3
import Derived.Test.YtcocfnjbgceidaaGaj
import Derived.Deep.CutRange
namespace Go.Proofs.Ytcocfnjbgceidaa
open Go.RowKit

theorem infoZ : (Try.prog.info? 248).map (fun i => (i.zero, i.size)) = some (some (.agg za), 96) := by kernel_rfl
theorem parts_two {i : Option TypeInfo} {z : Option Value} {n : Nat} (h : i.map (fun i => (i.zero, i.size)) = some (z, n)) : ∃ j, i = some j ∧ j.zero = z ∧ j.size = n := by
  cases i with
  | none => simp at h
  | some j => simp at h; exact ⟨j, rfl, h.1, h.2⟩
/-- a list literal of one drum -/
theorem wpList_build1 {ops : Array Oper} {rest : List Oper} {o : Oper} {a : Act} {w : World} {Q : Exit → Act → World → Prop} (hg : o.guard = none) (x : Operand) (ho : o.op = .buildSlice 215 1 #[(0, x)]) (q : Nat → Int) (hx : a.eval x = .agg (da q))
    (h : wpList Try.prog ops Q rest (a.put o.dst (.slice (some ⟨w.heap.size, 0, none⟩) 1 1)) (w.alloc (.cells (da q) 248))) : wpList Try.prog ops Q (o :: rest) a w := by
  obtain ⟨i, hi, hz, hs⟩ := parts_two infoZ
  refine wpList_buildSlice hg 215 248 1 #[(0, x)] ho (da q) i (.agg za) Try.underlying215 hi hz (by rw [hs]; decide) (by rw [hs]; decide) ?_ h
  rw [hs]
  have hf := Great.fill_whole (s := 96) (by omega) [.agg (da q)] ((Array.range (1 * 96)).map ((Value.agg za).cells[· % (Value.agg za).cells.size]!)) (fun v hv => by simp at hv; subst hv; exact da_size q) (by simp)
  simp [hx, Value.cells] at hf ⊢
  exact hf
set_option maxRecDepth 20000 in
/-- .. of two -/
theorem wpList_build2 {ops : Array Oper} {rest : List Oper} {o : Oper} {a : Act} {w : World} {Q : Exit → Act → World → Prop} (hg : o.guard = none) (x y : Operand) (ho : o.op = .buildSlice 215 2 #[(0, x), (1, y)]) (q r : Nat → Int) (hx : a.eval x = .agg (da q)) (hy : a.eval y = .agg (da r))
    (h : wpList Try.prog ops Q rest (a.put o.dst (.slice (some ⟨w.heap.size, 0, none⟩) 2 2)) (w.alloc (.cells (da q ++ da r) 248))) : wpList Try.prog ops Q (o :: rest) a w := by
  obtain ⟨i, hi, hz, hs⟩ := parts_two infoZ
  refine wpList_buildSlice hg 215 248 2 #[(0, x), (1, y)] ho (da q ++ da r) i (.agg za) Try.underlying215 hi hz (by rw [hs]; decide) (by rw [hs]; decide) ?_ h
  rw [hs]
  have hf := Great.fill_whole (s := 96) (by omega) [.agg (da q), .agg (da r)] ((Array.range (2 * 96)).map ((Value.agg za).cells[· % (Value.agg za).cells.size]!)) (fun v hv => by simp at hv; rcases hv with rfl | rfl <;> exact da_size _) (by simp)
  have e : (#[(0, x), (1, y)].map fun (p : Nat × Operand) => (p.1, a.eval p.2)).toList = (([.agg (da q), .agg (da r)] : List Value).zipIdx 0).map fun x => (x.2, x.1) := by simp [hx, hy]
  have e2 : (([.agg (da q), .agg (da r)] : List Value).flatMap fun v => v.cells.toList).toArray = da q ++ da r := by simp [Value.cells]
  rw [e2] at hf
  refine Eq.trans ?_ hf
  exact congrArg _ e
theorem LD1 (w : World) (q : Nat → Int) : LD (w.alloc (.cells (da q) 248)) w.heap.size [q] := by
  refine LD.of_cells ⟨da q, 248, heap_alloc_new _ _, fun j hj i hi => ?_⟩
  obtain rfl : j = 0 := by simpa using hj
  simpa [da] using dv_get q i hi
theorem LD2 (w : World) (q r : Nat → Int) : LD (w.alloc (.cells (da q ++ da r) 248)) w.heap.size [q, r] := by
  refine LD.of_cells ⟨da q ++ da r, 248, heap_alloc_new _ _, fun j hj i hi => ?_⟩
  have hj2 : j < 2 := hj
  match j, hj2 with
  | 0, _ =>
    rw [Array.getElem?_append_left (by rw [da_size]; omega)]
    simpa [da] using dv_get q i hi
  | 1, _ =>
    rw [Array.getElem?_append_right (by rw [da_size]; omega), da_size]
    simpa [da] using dv_get r i hi

theorem machineD_any (s : Int) (A : Option Addr) (c : Nat) (l : List (Int × Int)) (g e : Nat) (ds : List (Nat → Int)) (w : World) (hA : HA w A l) (hn : l.length ≤ 1048576) (hwf : HWF l) (hs : -32768 ≤ s ∧ s ≤ 32767)
    (hL : LD w g ds) (hd : ∀ j, j < ds.length → DWF (ds.getD j (fun _ => 0))) (hds : ds.length ≤ 1048576) :
    Calls Try.prog 100 #[.agg #[.int .i16 s, .slice A l.length c], .slice (some ⟨g, 0, none⟩) ds.length e] w (Mach s A l.length c (frB s l && drsB s l.length ds) w) :=
  machineFor_any s A c l _ _ w hA hn hwf hs fun hf W hW => fits_any s A l.length c g e ds W (hL.keep hW) (frB_all hf).2.1.2 (frB_all hf).1 hd hds
theorem machine1_any (s : Int) (A : Option Addr) (c : Nat) (l : List (Int × Int)) (d : Nat → Int) (w : World) (hA : HA w A l) (hn : l.length ≤ 1048576) (hwf : HWF l) (hs : -32768 ≤ s ∧ s ≤ 32767) (hd : DWF d) (g : Nat) (hg : g = w.heap.size) :
    Calls Try.prog 100 #[.agg #[.int .i16 s, .slice A l.length c], .slice (some ⟨g, 0, none⟩) 1 1] (w.alloc (.cells (da d) 248)) (Mach s A l.length c (askB s l d) (w.alloc (.cells (da d) 248))) := by
  subst hg
  have hb0 : Below w.heap.size w (w.alloc (.cells (da d) 248)) := (Below.refl _ _).alloc (Nat.le_refl _) _
  have hd1 : ∀ j, j < [d].length → DWF ([d].getD j (fun _ => 0)) := by
    intro j hj
    obtain rfl : j = 0 := by simpa using hj
    exact hd
  have h := machineD_any s A c l w.heap.size 1 [d] _ (hA.below hb0) hn hwf hs (LD1 w d) hd1 (by simp) 
  have e : (frB s l && drsB s l.length [d]) = askB s l d := by simp [drsB, askB]
  rw [e] at h
  exact h

end Go.Proofs.Ytcocfnjbgceidaa
namespace Go.Proofs.Ytcocfnjbgceidaa
open Go.RowKit
theorem infoLt (d : Nat → Int) : (Try.prog.info? 247).map (·.size) = some (dv d).length := by rw [dv_length]; exact info247
end Go.Proofs.Ytcocfnjbgceidaa
namespace Go.Proofs.Ytcocfnjbgceidaa
open Go.RowKit

def pinB (d : Nat → Int) (k t : Nat) : Bool := decide (d k / 2 ^ t % 2 = 1)
/-- there are such a step and such a track -/
def plB (s : Int) (n : Nat) (x y : Int) : Bool := inB x 0 (s - 1) && inB y 0 ((n : Int) - 1)
theorem plB_nat {s : Int} {n : Nat} {x y : Int} (h : plB s n x y = true) : ∃ k t : Nat, x = k ∧ y = t ∧ (k : Int) < s ∧ t < n := by
  simp only [plB, inB, Bool.and_eq_true, decide_eq_true_eq] at h
  exact ⟨x.toNat, y.toNat, by omega, by omega, by omega, by omega⟩

theorem shr_bounds (x : Int) (t : Nat) (h0 : 0 ≤ x) (h1 : x ≤ 4294967295) : 0 ≤ x / 2 ^ t ∧ x / 2 ^ t ≤ 4294967295 := by
  have hq : (0 : Int) < 2 ^ t := Int.pow_pos (by decide)
  exact ⟨Int.ediv_nonneg h0 (by omega), Int.le_trans (Int.ediv_le_self _ h0) h1⟩
theorem pin_tmod {d : Nat → Int} {k t : Nat} (h0 : 0 ≤ d k) (h1 : d k ≤ 4294967295) : ((d k / 2 ^ t).tmod 2 == 1) = pinB d k t := by
  rw [Int.tmod_eq_emod_of_nonneg (shr_bounds _ t h0 h1).1]
  rfl
theorem and_one32 (x : Int) (h0 : 0 ≤ x) (h1 : x ≤ 4294967295) : bits .and .u32 x 1 = x % 2 := by
  have h := bits_mask .u32 32 (by decide) wraps_u32 1 (by decide) x h0 (by omega)
  simpa using h
theorem pin_and {d : Nat → Int} {k t : Nat} (h0 : 0 ≤ d k) (h1 : d k ≤ 4294967295) : (bits .and .u32 (d k / 2 ^ t) 1 == 1) = pinB d k t := by
  rw [and_one32 _ (shr_bounds _ t h0 h1).1 (shr_bounds _ t h0 h1).2]
  rfl

theorem hasStep_any (s x : Int) (A : Option Addr) (n c : Nat) (w : World) (hs : -32768 ≤ s ∧ s ≤ 32767) :
    Calls Try.prog 164 #[.agg #[.int .i64 s, .slice A n c], .int .i64 x] w (Says (inB x 0 (s - 1)) w) := by
  have hb0 : Below w.heap.size w (w.alloc (.cells #[.int .i64 s, .slice A n c] 120)) := (Below.refl _ _).alloc (Nat.le_refl _) _
  obtain ⟨h1, h2⟩ := hs
  go_enter Try.func164, Try.ntmps164
  go_wp2_with (go_at_call 55; refine (within_any _ _ _ _).mono ?_; rintro e w' ⟨rfl, rfl⟩)
  go_ret
  exact ⟨rfl, hb0⟩
theorem hasTrack_any (s y : Int) (A : Option Addr) (n c : Nat) (w : World) (hn : n ≤ 1048576) :
    Calls Try.prog 173 #[.agg #[.int .i64 s, .slice A n c], .int .i64 y] w (Says (inB y 0 ((n : Int) - 1)) w) := by
  have hb0 : Below w.heap.size w (w.alloc (.cells #[.int .i64 s, .slice A n c] 120)) := (Below.refl _ _).alloc (Nat.le_refl _) _
  have HT := fun W => tracks_any A n c hn W
  go_enter Try.func173, Try.ntmps173
  go_wp2_with (first | (go_at_call 134; with_reducible refine (HT _).mono ?_; rintro e w' ⟨rfl, rfl⟩) | (go_at_call 55; refine (within_any _ _ _ _).mono ?_; rintro e w' ⟨rfl, rfl⟩))
  go_ret
  exact ⟨rfl, hb0⟩

/-- HasPin's answer -/
def hasB (s : Int) (l : List (Int × Int)) (d : Nat → Int) (x y : Int) : Bool := askB s l d && plB s l.length x y && pinB d x.toNat y.toNat
def hasC (s : Int) (l : List (Int × Int)) (d : Nat → Int) (x y : Int) : Int := cod3 (askB s l d) (plB s l.length x y)
theorem ask_all {s : Int} {l : List (Int × Int)} {d : Nat → Int} (h : askB s l d = true) : (2 ≤ s ∧ s ≤ 96) ∧ (1 ≤ l.length ∧ l.length ≤ 24) ∧ HG s l l.length ∧ drB s l.length d = true := by
  simp only [askB, Bool.and_eq_true] at h
  have := frB_all h.1
  exact ⟨this.1, this.2.1, this.2.2, h.2⟩
end Go.Proofs.Ytcocfnjbgceidaa
namespace Go.Proofs.Ytcocfnjbgceidaa
open Go.RowKit
def ascW (l : List (Int × Int × Int)) : Bool := (List.range l.length).all fun j => wnAsc l j
def AscW (l : List (Int × Int × Int)) (k : Nat) : Prop := ∀ j, j < k → 0 < j → befW (wnS l (j - 1)) (wnT l (j - 1)) (wnS l j) (wnT l j) = true
theorem ascW_yes (l : List (Int × Int × Int)) (h : AscW l l.length) : ascW l = true := by
  simp only [ascW, wnAsc, List.all_eq_true, List.mem_range]
  intro j hj
  rcases Nat.eq_zero_or_pos j with h0 | h0
  · simp [h0]
  · simp [h j hj h0]
theorem ascW_no (l : List (Int × Int × Int)) (k : Nat) (hk : k < l.length) (h0 : 0 < k) (h : befW (wnS l (k - 1)) (wnT l (k - 1)) (wnS l k) (wnT l k) = false) : ascW l = false := by
  unfold ascW
  rw [List.all_eq_false]
  exact ⟨k, List.mem_range.2 hk, by simp [wnAsc, h]; omega⟩
theorem AscW_succ (l : List (Int × Int × Int)) (k : Nat) (h : AscW l k) (h' : befW (wnS l (k - 1)) (wnT l (k - 1)) (wnS l k) (wnT l k) = true) : AscW l (k + 1) := fun j hj h0 => by
  rcases Nat.lt_or_ge j k with h1 | h1
  · exact h j h1 h0
  · rw [show j = k by omega]; exact h'
def okW (s : Int) (n : Nat) (l : List (Int × Int × Int)) : Bool := (List.range l.length).all fun j => wnOk s n l j
theorem pinsB_split (s : Int) (n : Nat) (l : List (Int × Int × Int)) : pinsB s n l = (ascW l && okW s n l) := by
  rw [Bool.eq_iff_iff]
  simp only [pinsB, ascW, okW, Bool.and_eq_true, List.all_eq_true, List.mem_range]
  exact ⟨fun h => ⟨fun j hj => (h j hj).2, fun j hj => (h j hj).1⟩, fun h j hj => ⟨h.2 j hj, h.1 j hj⟩⟩
set_option maxHeartbeats 400000 in
theorem ascendsW_any (A : Option Addr) (c : Nat) (l : List (Int × Int × Int)) (w : World) (hA : WnA w A l) (hn : l.length ≤ 1048576) :
    Calls Try.prog 137 #[.agg #[.slice A l.length c, .func (.func 111) #[] #[]]] w (Says (ascW l) w) := by
  obtain ⟨X, hX⟩ : ∃ X, X = (w.alloc (.cells #[.slice A l.length c, .func (.func 111) #[] #[]] 184)) := ⟨_, rfl⟩
  have hb0 : Below w.heap.size w X := by rw [hX]; exact (Below.refl _ _).alloc (Nat.le_refl _) _
  have P0 : Bk X w.heap.size 184 #[.slice A l.length c, .func (.func 111) #[] #[]] := by rw [hX]; exact Bk.new _ _ _ rfl
  have hA' := hA.below hb0
  have hXs := hb0.size
  clear hA
  go_enter Try.func137, Try.ntmps137
  go_upto_region 1 with fail
  rw [← hX]
  clear hX
  go_wp2_with fail
  go_loopw [3] (fun i wr => ∃ k : Nat, 0 < k ∧ k ≤ l.length + 1 ∧ i = .int .i64 k ∧ AscW l k ∧ Below X.heap.size X wr)
    (fun i _ => l.length + 1 - (intOf i).toNat)
  case atStart =>
    exact ⟨1, by omega, by omega, rfl, fun j hj h0 => absurd hj (by omega), Below.refl _ _⟩
  case round =>
    obtain ⟨k, hk0, hk, rfl, hG, hb⟩ := hrel
    have HG := hide hG
    clear hG
    by_cases hlt : k < l.length
    · obtain ⟨b, o, rfl, hbb, c1, c2, c5⟩ := hA' k hlt
      have d1 := Later.cell ((hb.cell (p := ⟨b, o + k * 3, none⟩) hbb).trans c1)
      have d2 := Later.cell ((hb.cell (p := ⟨b, o + k * 3 + 1, none⟩) hbb).trans c2)
      obtain ⟨b', o', e', hbb', c3, c4, c6⟩ := hA' (k - 1) (by omega)
      obtain ⟨rfl, rfl⟩ : b' = b ∧ o' = o := by simpa [eq_comm] using e'
      have d3 := Later.cell ((hb.cell (p := ⟨b', o' + (k - 1) * 3, none⟩) hbb').trans c3)
      have d4 := Later.cell ((hb.cell (p := ⟨b', o' + (k - 1) * 3 + 1, none⟩) hbb').trans c4)
      have d5 := Later.cell ((hb.cell (p := ⟨b', o' + k * 3 + 2, none⟩) hbb).trans c5)
      have d6 := Later.cell ((hb.cell (p := ⟨b', o' + (k - 1) * 3 + 2, none⟩) hbb').trans c6)
      have z0 := Later.cell ((P0.keep hb).cell (i := 0) rfl)
      have z1 := Later.cell ((P0.keep hb).cell (i := 1) rfl)
      have y0 := (P0.keep hb).cell (i := 0) rfl
      have hs := hb.size
      clear c1 c2 c3 c4 c5 c6 e' hA'
      go_wp2_with fail
      refine wp_region_later (by kernel_rfl) (by kernel_rfl) ?_
      repeat (go_big_quiet_step ((go_at_call 111; exact Later.call (compareWornPins_any _ _ _ _ _ _ _))))
      refine wpQuiet_nil ?_
      rintro _ ⟨⟨wq, hq⟩, rfl⟩
      have ho := ordJ_neg (wnS l (k - 1)) (wnT l (k - 1)) (wnS l k) (wnT l k)
      have Ho := hide ho
      clear ho
      go_wp2
      · go_ret
        have h1 : 0 ≤ ordJ (wnS l (k - 1)) (wnT l (k - 1)) (wnS l k) (wnT l k) := by assumption
        refine ⟨ret_bool (ascW_no l k hlt hk0 ?_).symm, hb0.trans ((hb.trans (hq.mono hs)).mono hXs)⟩
        cases hh : befW (wnS l (k - 1)) (wnT l (k - 1)) (wnS l k) (wnT l k)
        · rfl
        · have := Ho.out.2 hh; omega
      · have h1 : ordJ (wnS l (k - 1)) (wnT l (k - 1)) (wnS l k) (wnT l k) < 0 := by omega
        go_roundw
        case rel => exact ⟨k + 1, by omega, by omega, by go_num, AscW_succ l k HG.out (Ho.out.1 h1), hb.trans (hq.mono hs)⟩
        case measure => simp [intOf]; omega
    · have y0 := (P0.keep hb).cell (i := 0) rfl
      go_wp2
      go_ret
      exact ⟨ret_bool (by rw [ascW_yes l (fun j hj => HG.out j (by omega))]), hb0.trans (hb.mono hXs)⟩

theorem wornAt_any (a p r : Int) (w : World) (ha : -128 ≤ a ∧ a ≤ 127) (hp : -128 ≤ p ∧ p ≤ 127) :
    Calls Try.prog 104 #[.agg #[.int .i8 a, .int .i8 p, .int .i64 r]] w fun e w' => e = .returned (.agg #[.int .i64 a, .int .i64 p]) ∧ Below w.heap.size w w' := by
  obtain ⟨a1, a2⟩ := ha
  obtain ⟨p1, p2⟩ := hp
  go_enter Try.func104, Try.ntmps104
  go_wp2
  refine bodyPost_ret (v := .agg #[.int .i64 a, .int .i64 p]) (by simp [results, Try.results104, go_sem]) rfl ⟨rfl, ?_⟩
  repeat (first | exact Below.refl _ _ | refine Below.alloc ?_ (by simp <;> omega) _ | refine Below.setCell ?_ (by simp) _)
theorem hasPlace_any (s x y : Int) (A : Option Addr) (n c : Nat) (w : World) (hs : -32768 ≤ s ∧ s ≤ 32767) (hn : n ≤ 1048576) :
    Calls Try.prog 138 #[.agg #[.int .i64 s, .slice A n c], .agg #[.int .i64 x, .int .i64 y]] w (Says (plW s n x y) w) := by
  obtain ⟨X, hX⟩ : ∃ X, X = (w.alloc (.cells #[.int .i64 s, .slice A n c] 120)).alloc (.cells #[.int .i64 x, .int .i64 y] 175) := ⟨_, rfl⟩
  have hb0 : Below w.heap.size w X := by rw [hX]; exact ((Below.refl _ _).alloc (Nat.le_refl _) _).alloc (by simp) _
  have P0 : Bk X w.heap.size 120 #[.int .i64 s, .slice A n c] := by rw [hX]; exact (Bk.new _ _ _ rfl).old _
  have P1 : Bk X (w.heap.size + 1) 175 #[.int .i64 x, .int .i64 y] := by rw [hX]; exact Bk.new _ _ _ (by simp)
  have e0 := P0.cell (i := 0) rfl
  have e1 := P0.cell (i := 1) rfl
  have e2 := P1.cell (i := 0) rfl
  have e3 := P1.cell (i := 1) rfl
  obtain ⟨r, hr⟩ : ∃ r, r = inB x 0 (s - 1) := ⟨_, rfl⟩
  obtain ⟨q, hq⟩ : ∃ q, q = inB y 0 ((n : Int) - 1) := ⟨_, rfl⟩
  have HX := hide (show plW s n x y = (r && q) by rw [hr, hq]; rfl)
  have K1 := hasStep_any s x A n c X hs
  have K2 := fun W => hasTrack_any s y A n c W hn
  rw [← hr] at K1
  simp only [← hq] at K2
  clear hr hq
  go_enter Try.func138, Try.ntmps138
  go_upto_region 1 with fail
  rw [← hX]
  clear hX
  go_wp2_with fail
  refine K1.mono ?_
  rintro e w2 ⟨rfl, hb2⟩
  have b2 := step_below hb2 hb0
  have g0 := (P0.keep hb2).cell (i := 0) rfl
  have g1 := (P0.keep hb2).cell (i := 1) rfl
  have g2 := (P1.keep hb2).cell (i := 1) rfl
  clear e0 e1 e2 e3
  cases r
  · go_wp2
    go_ret
    exact ⟨ret_bool HX.out.symm, b2⟩
  · go_wp2_with fail
    refine (K2 _).mono ?_
    rintro e w3 ⟨rfl, hb3⟩
    have b3 := step_below hb3 b2
    go_wp2
    go_ret
    exact ⟨ret_bool HX.out.symm, b3⟩
theorem canWear1_any (x : Int) (w : World) :
    Calls Try.prog 140 #[.int .i64 x] w fun e w' => e = .returned (.bool (!inB x 0 1000000)) ∧ w = w' := by
  go_enter Try.func140, Try.ntmps140
  go_wp2_with (go_at_call 55; refine (within_any _ _ _ _).mono ?_; rintro e w' ⟨rfl, rfl⟩)
  go_ret
  exact ⟨rfl, rfl⟩
set_option maxRecDepth 20000 in
set_option maxHeartbeats 1000000 in
theorem indexStrokes_any (U : Option Addr) (v : Nat) (z : List Int) (w : World) (hU : SZ w U z) (hz : z.length ≤ 1048576) :
    Calls Try.prog 174 #[.slice U z.length v, .func (.func 140) #[] #[]] w fun e w' => ∃ r : Int, e = .returned (.int .i64 r) ∧ (0 ≤ r ↔ strB z = false) ∧ w = w' := by
  go_enter Try.func174, Try.ntmps174
  go_wp2_with fail
  go_loopw [8] (fun i wr => ∃ k : Nat, k ≤ z.length ∧ i = .int .i64 k ∧ ZG z k ∧ wr = w)
    (fun i _ => z.length - (intOf i).toNat)
  case atStart => exact ⟨0, Nat.zero_le _, rfl, fun j hj => absurd hj (Nat.not_lt_zero _), rfl⟩
  case round =>
    obtain ⟨k, hk, rfl, hG, rfl⟩ := hrel
    have HG := hide hG
    clear hG
    by_cases hlt : k < z.length
    · obtain ⟨b, o, rfl, hbb, c1⟩ := hU k hlt
      cases hi : inB (zAt z k) 0 1000000
      · have K1 := fun W => canWear1_any (zAt z k) W
        rw [hi] at K1
        have HI := hide hi
        clear hi hU
        go_wp2_with (go_at_call 140; with_reducible refine (K1 _).mono ?_; rintro e w' ⟨rfl, rfl⟩)
        go_ret
        exact ⟨_, rfl, ⟨fun _ => strB_no hlt HI.out, fun _ => by omega⟩, rfl⟩
      · have K1 := fun W => canWear1_any (zAt z k) W
        rw [hi] at K1
        have HI := hide hi
        clear hi hU
        go_wp2_with (go_at_call 140; with_reducible refine (K1 _).mono ?_; rintro e w' ⟨rfl, rfl⟩)
        go_roundw
        case rel => exact ⟨k + 1, hlt, by go_num, ZG_succ HG.out HI.out, by trivial⟩
        case measure => simp [intOf]; omega
    · obtain rfl : k = z.length := by omega
      have HS := hide (strB_yes HG.out)
      go_wp2
      go_ret
      exact ⟨_, rfl, ⟨fun h => absurd h (by decide), fun h => by rw [HS.out] at h; cases h⟩, rfl⟩
theorem containsStrokes_any (U : Option Addr) (v : Nat) (z : List Int) (w : World) (hU : SZ w U z) (hz : z.length ≤ 1048576) :
    Calls Try.prog 139 #[.slice U z.length v, .func (.func 140) #[] #[]] w fun e w' => e = .returned (.bool (!strB z)) ∧ w = w' := by
  go_enter Try.func139, Try.ntmps139
  go_wp2_with fail
  refine (indexStrokes_any U v z w hU hz).mono ?_
  rintro e w' ⟨r, rfl, hr, rfl⟩
  have HR := hide hr
  clear hr
  go_wp2
  go_ret
  refine ⟨ret_bool ?_, rfl⟩
  have := HR.out
  cases hs : strB z
  · simp [this.2 hs]
  · simp
    rcases Int.lt_or_le r 0 with h | h
    · exact h
    · have := this.1 h; rw [hs] at this; cases this
end Go.Proofs.Ytcocfnjbgceidaa
