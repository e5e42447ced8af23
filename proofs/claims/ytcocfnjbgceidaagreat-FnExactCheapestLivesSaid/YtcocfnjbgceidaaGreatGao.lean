import Derived.Test.YtcocfnjbgceidaaGreatGan
import Derived.Test.YtcocfnjbgceidaaGreatGah
import Derived.Deep.CutRange
namespace Go.Proofs.YtcocfnjbgceidaaGreat
open Go.RowKit Go.Shelf Go.Lib
open Go.Sort (SWO HoldsK PermIn SortedIn pdq pdq_sorts sorted_unique_holds)
theorem cmpLaysW (g n : Nat) (w : World) : CmpLays Tryz.prog 102 #[] encW 3 cfW g 0 n w :=
  fun _ _ _ _ x y => compareWornPins_grow x.1 x.2.1 x.2.2 y.1 y.2.1 y.2.2 _
/-- what slices.SortFunc leaves of notes -/
def SortedW (base : Nat) (C : Option Addr) (q : Nat) (l T : List (Int × Int × Int)) (w : World) (e : Ending) (w' : World) : Prop :=
  e = .returned (.tuple #[]) ∧ w'.ownsRow base 97 3 (.slice C l.length q) l.length (wnC T) ∧ Below base w w' ∧ w.grownBy w' (Value.slice C l.length q).ownBlock
set_option maxHeartbeats 2000000 in
set_option maxRecDepth 100000 in
theorem sortFuncW_any (C : Option Addr) (q : Nat) (l T : List (Int × Int × Int)) (base : Nat) (w : World) (h : w.ownsRow base 97 3 (.slice C l.length q) l.length (wnC l)) (hn : l.length ≤ 1048576) (hbase : base ≤ w.heap.size) (hT : AscL T) (hTp : T.Perm l) :
    Calls Tryz.prog 122 #[.slice C l.length q, .func (.func 102) #[] #[]] w (SortedW base C q l T w) := by
  by_cases h0 : l = []
  · subst h0
    have hp : ∀ lim W, Calls Tryz.prog 125 #[.slice C 0 q, .int .i64 0, .int .i64 0, .int .i64 lim, .func (.func 102) #[] #[]] W fun e w' => e = .returned (.tuple #[]) ∧ w' = W := fun lim W => AnyF.pdqsortCmpFunc_none (P := Tryz.prog) (ρ := sortRenW) sortLaysW C q lim (.func (.func 102) #[] #[]) W
    have hl : ∀ W, Calls Tryz.prog 126 #[.int .u64 0] W fun e w' => e = .returned (.int .i64 (Lib.bitLen 0 : Nat)) ∧ w' = W := fun W => Any.bits_Len (SlLaysF0.n15.bits (P := Tryz.prog) (ρ := sortRenW) { sortLaysW with }) 0 W (by omega) (by omega)
    have HO := hide h
    clear h
    go_enter Tryz.func122, Tryz.ntmps122
    go_wp2_with (first | (go_at_call 126; refine (hl _).mono ?_; rintro e w' ⟨rfl, rfl⟩) | (go_at_call 125; refine (hp _ _).mono ?_; rintro e w' ⟨rfl, rfl⟩))
    go_end0
    obtain rfl : T = [] := List.perm_nil.1 hTp
    exact ⟨rfl, HO.out, Below.refl _ _, rfl, rfl, rfl, Nat.le_refl _, fun _ _ _ => rfl⟩
  · have hpos : 0 < l.length := by
      rcases Nat.eq_zero_or_pos l.length with e | e
      · exact absurd (List.eq_nil_of_length_eq_zero e) h0
      · exact e
    rcases h.2 with ⟨h', e0⟩ | ⟨g, cap, cur, h', hgb, hg, _⟩
    · omega
    · simp only [Value.slice.injEq, true_and] at h'
      obtain ⟨rfl, rfl⟩ := h'
      have hblk : g < w.heap.size := (Array.getElem?_eq_some_iff.1 hg).1
      have hsz : l.toArray.size = l.length := by simp
      have eg : ∀ args w, (callFunc 102 args).run Tryz.prog w = .ok (.enter 102 args) w := enters_of Tryz.func102 (by kernel_rfl) rfl
      have aE : ∀ w, (isAgg 97).run Tryz.prog w = .ok true w := Tryz.isAgg97
      have zE : ∀ w, (Go.sizeOf 97).run Tryz.prog w = .ok 3 w := Tryz.sizeOf97
      have hH := holds_ownW h
      have hp := AnyQ.pdqsortCmpFunc_all (P := Tryz.prog) (ρ := sortRenW) sortLaysW 3 aE zE encW cfW 102 #[] cfW_swo g 0 q l.toArray w eg (cmpLaysW g _ w) ⟨encW_len, encW_one, hH, hblk⟩ (l.toArray.size + 1) 0 l.toArray.size (Lib.bitLen l.toArray.size) l.toArray w (by omega) rfl (SWK.start hH) (Nat.zero_le _) (Nat.le_refl _) (by rw [hsz]; omega) (Nat.lt_of_le_of_lt (Lib.bitLen_le l.toArray.size 62 (by omega) (by rw [hsz]; omega)) (by omega)) (Or.inl rfl)
      have hl : Calls Tryz.prog 126 #[.int .u64 (l.toArray.size : Int)] w fun e w' => e = .returned (.int .i64 (Lib.bitLen l.toArray.size : Nat)) ∧ w' = w := by
        have h := Any.bits_Len (SlLaysF0.n15.bits (P := Tryz.prog) (ρ := sortRenW) { sortLaysW with }) (l.toArray.size : Int) w (by omega) (by rw [hsz]; omega)
        rwa [Int.toNat_natCast] at h
      have hs := pdq_sorts (ltOf cfW) cfW_swo l.toArray 0 l.toArray.size (Lib.bitLen l.toArray.size) true true (Nat.zero_le _) (Nat.le_refl _) (Or.inl rfl)
      have hD : (pdq (ltOf cfW) l.toArray 0 l.toArray.size (Lib.bitLen l.toArray.size) true true) = T.toArray := Array.ext' (sortedW_unique hT hTp hs.1 hs.2)
      rw [hD] at hp
      rw [hsz] at hp hl
      have hp' : Calls Tryz.prog 125 #[.slice (some ⟨g, 0, none⟩) l.length q, .int .i64 0, .int .i64 l.length, .int .i64 (Lib.bitLen l.length : Nat), .func (.func 102) #[] #[]] w fun e w' => e = .returned (.tuple #[]) ∧ w'.ownsRow base 97 3 (.slice (some ⟨g, 0, none⟩) l.length q) l.length (wnC T) ∧ Below base w w' ∧ w.grownBy w' (some g) := by
        refine Calls.mono hp fun e w' ⟨he, m, os, hw⟩ => ⟨he, ?_, ?_, by rw [hw]; exact sorted_grownW⟩
        · rw [hw]
          exact sorted_ownW h hTp.length_eq
        · rw [hw]
          exact sorted_belowW hgb hbase
      have wr : IntKind.u64.wrap (l.length : Int) = l.length := by simp [IntKind.wrap, IntKind.bits, IntKind.signed]; omega
      clear hp hs hH h hg eg aE zE hsz h0
      obtain ⟨bl, hbl⟩ : ∃ bl : Nat, bl = Lib.bitLen l.length := ⟨_, rfl⟩
      rw [← hbl] at hp' hl
      clear hbl
      go_enter Tryz.func122, Tryz.ntmps122
      go_wp2_with (first | (go_at_call 126; refine hl.mono ?_; rintro e w' ⟨rfl, rfl⟩) | (go_at_call 125; refine hp'.mono ?_; rintro e w' ⟨rfl, ho, hb, hgr⟩))
      go_end0
      exact ⟨rfl, ho, hb, hgr⟩
end Go.Proofs.YtcocfnjbgceidaaGreat
namespace Go.Proofs.YtcocfnjbgceidaaGreat
open Go.RowKit
def ascW (l : List (Int × Int × Int)) : Bool := (List.range l.length).all fun j => wnAsc l j
def AscW (l : List (Int × Int × Int)) (k : Nat) : Prop := ∀ j, j < k → 0 < j → befW (wnS l (j - 1)) (wnT l (j - 1)) (wnS l j) (wnT l j) = true
theorem ascW_yes (l : List (Int × Int × Int)) (h : AscW l l.length) : ascW l = true := by
  simp only [ascW, wnAsc, List.all_eq_true, List.mem_range]
  intro j hj
  rcases Nat.eq_zero_or_pos j with h0 | h0
  · simp [h0]
  · simp [h j hj h0]
theorem ascW_no (l : List (Int × Int × Int)) (k : Nat) (hk : k < l.length) (h0 : 0 < k) (h : befW (wnS l (k - 1)) (wnT l (k - 1)) (wnS l k) (wnT l k) = false) : ascW l = false := by
  unfold ascW
  rw [List.all_eq_false]
  exact ⟨k, List.mem_range.2 hk, by simp [wnAsc, h]; omega⟩
theorem AscW_succ (l : List (Int × Int × Int)) (k : Nat) (h : AscW l k) (h' : befW (wnS l (k - 1)) (wnT l (k - 1)) (wnS l k) (wnT l k) = true) : AscW l (k + 1) := fun j hj h0 => by
  rcases Nat.lt_or_ge j k with h1 | h1
  · exact h j h1 h0
  · rw [show j = k by omega]; exact h'
def okW (s : Int) (n : Nat) (l : List (Int × Int × Int)) : Bool := (List.range l.length).all fun j => wnOk s n l j
theorem pinsB_split (s : Int) (n : Nat) (l : List (Int × Int × Int)) : pinsB s n l = (ascW l && okW s n l) := by
  rw [Bool.eq_iff_iff]
  simp only [pinsB, ascW, okW, Bool.and_eq_true, List.all_eq_true, List.mem_range]
  exact ⟨fun h => ⟨fun j hj => (h j hj).2, fun j hj => (h j hj).1⟩, fun h j hj => ⟨h.2 j hj, h.1 j hj⟩⟩
set_option maxHeartbeats 400000 in
theorem ascendsW_any (A : Option Addr) (c : Nat) (l : List (Int × Int × Int)) (w : World) (hA : WnA w A l) (hn : l.length ≤ 1048576) :
    Calls Tryz.prog 103 #[.agg #[.slice A l.length c, .func (.func 102) #[] #[]]] w (Says (ascW l) w) := by
  obtain ⟨X, hX⟩ : ∃ X, X = (w.alloc (.cells #[.slice A l.length c, .func (.func 102) #[] #[]] 166)) := ⟨_, rfl⟩
  have hb0 : Below w.heap.size w X := by rw [hX]; exact (Below.refl _ _).alloc (Nat.le_refl _) _
  have P0 : Bk X w.heap.size 166 #[.slice A l.length c, .func (.func 102) #[] #[]] := by rw [hX]; exact Bk.new _ _ _ rfl
  have hA' := hA.below hb0
  have hXs := hb0.size
  clear hA
  go_enter Tryz.func103, Tryz.ntmps103
  go_upto_region 1 with fail
  rw [← hX]
  clear hX
  go_wp2_with fail
  go_loopw [3] (fun i wr => ∃ k : Nat, 0 < k ∧ k ≤ l.length + 1 ∧ i = .int .i64 k ∧ AscW l k ∧ Below X.heap.size X wr)
    (fun i _ => l.length + 1 - (intOf i).toNat)
  case atStart =>
    exact ⟨1, by omega, by omega, rfl, fun j hj h0 => absurd hj (by omega), Below.refl _ _⟩
  case round =>
    obtain ⟨k, hk0, hk, rfl, hG, hb⟩ := hrel
    have HG := hide hG
    clear hG
    by_cases hlt : k < l.length
    · obtain ⟨b, o, rfl, hbb, c1, c2, c5⟩ := hA' k hlt
      have d1 := Later.cell ((hb.cell (p := ⟨b, o + k * 3, none⟩) hbb).trans c1)
      have d2 := Later.cell ((hb.cell (p := ⟨b, o + k * 3 + 1, none⟩) hbb).trans c2)
      obtain ⟨b', o', e', hbb', c3, c4, c6⟩ := hA' (k - 1) (by omega)
      obtain ⟨rfl, rfl⟩ : b' = b ∧ o' = o := by simpa [eq_comm] using e'
      have d3 := Later.cell ((hb.cell (p := ⟨b', o' + (k - 1) * 3, none⟩) hbb').trans c3)
      have d4 := Later.cell ((hb.cell (p := ⟨b', o' + (k - 1) * 3 + 1, none⟩) hbb').trans c4)
      have d5 := Later.cell ((hb.cell (p := ⟨b', o' + k * 3 + 2, none⟩) hbb).trans c5)
      have d6 := Later.cell ((hb.cell (p := ⟨b', o' + (k - 1) * 3 + 2, none⟩) hbb').trans c6)
      have z0 := Later.cell ((P0.keep hb).cell (i := 0) rfl)
      have z1 := Later.cell ((P0.keep hb).cell (i := 1) rfl)
      have y0 := (P0.keep hb).cell (i := 0) rfl
      have hs := hb.size
      clear c1 c2 c3 c4 c5 c6 e' hA'
      go_wp2_with fail
      refine wp_region_later (by kernel_rfl) (by kernel_rfl) ?_
      repeat (go_big_quiet_step ((go_at_call 102; exact Later.call (compareWornPins_any _ _ _ _ _ _ _))))
      refine wpQuiet_nil ?_
      rintro _ ⟨⟨wq, hq⟩, rfl⟩
      have ho := ordJ_neg (wnS l (k - 1)) (wnT l (k - 1)) (wnS l k) (wnT l k)
      have Ho := hide ho
      clear ho
      go_wp2
      · go_ret
        have h1 : 0 ≤ ordJ (wnS l (k - 1)) (wnT l (k - 1)) (wnS l k) (wnT l k) := by assumption
        refine ⟨ret_bool (ascW_no l k hlt hk0 ?_).symm, hb0.trans ((hb.trans (hq.mono hs)).mono hXs)⟩
        cases hh : befW (wnS l (k - 1)) (wnT l (k - 1)) (wnS l k) (wnT l k)
        · rfl
        · have := Ho.out.2 hh; omega
      · have h1 : ordJ (wnS l (k - 1)) (wnT l (k - 1)) (wnS l k) (wnT l k) < 0 := by omega
        go_roundw
        case rel => exact ⟨k + 1, by omega, by omega, by go_num, AscW_succ l k HG.out (Ho.out.1 h1), hb.trans (hq.mono hs)⟩
        case measure => simp [intOf]; omega
    · have y0 := (P0.keep hb).cell (i := 0) rfl
      go_wp2
      go_ret
      exact ⟨ret_bool (by rw [ascW_yes l (fun j hj => HG.out j (by omega))]), hb0.trans (hb.mono hXs)⟩

theorem wornAt_any (a p r : Int) (w : World) (ha : -128 ≤ a ∧ a ≤ 127) (hp : -128 ≤ p ∧ p ≤ 127) :
    Calls Tryz.prog 86 #[.agg #[.int .i8 a, .int .i8 p, .int .i64 r]] w fun e w' => e = .returned (.agg #[.int .i64 a, .int .i64 p]) ∧ Below w.heap.size w w' := by
  obtain ⟨a1, a2⟩ := ha
  obtain ⟨p1, p2⟩ := hp
  go_enter Tryz.func86, Tryz.ntmps86
  go_wp2
  refine bodyPost_ret (v := .agg #[.int .i64 a, .int .i64 p]) (by simp [results, Tryz.results86, go_sem]) rfl ⟨rfl, ?_⟩
  repeat (first | exact Below.refl _ _ | refine Below.alloc ?_ (by simp <;> omega) _ | refine Below.setCell ?_ (by simp) _)
theorem hasPlace_any (s x y : Int) (A : Option Addr) (n c : Nat) (w : World) (hs : -32768 ≤ s ∧ s ≤ 32767) (hn : n ≤ 1048576) :
    Calls Tryz.prog 104 #[.agg #[.int .i64 s, .slice A n c], .agg #[.int .i64 x, .int .i64 y]] w (Says (plW s n x y) w) := by
  obtain ⟨X, hX⟩ : ∃ X, X = (w.alloc (.cells #[.int .i64 s, .slice A n c] 101)).alloc (.cells #[.int .i64 x, .int .i64 y] 138) := ⟨_, rfl⟩
  have hb0 : Below w.heap.size w X := by rw [hX]; exact ((Below.refl _ _).alloc (Nat.le_refl _) _).alloc (by simp) _
  have P0 : Bk X w.heap.size 101 #[.int .i64 s, .slice A n c] := by rw [hX]; exact (Bk.new _ _ _ rfl).old _
  have P1 : Bk X (w.heap.size + 1) 138 #[.int .i64 x, .int .i64 y] := by rw [hX]; exact Bk.new _ _ _ (by simp)
  have e0 := P0.cell (i := 0) rfl
  have e1 := P0.cell (i := 1) rfl
  have e2 := P1.cell (i := 0) rfl
  have e3 := P1.cell (i := 1) rfl
  obtain ⟨r, hr⟩ : ∃ r, r = inB x 0 (s - 1) := ⟨_, rfl⟩
  obtain ⟨q, hq⟩ : ∃ q, q = inB y 0 ((n : Int) - 1) := ⟨_, rfl⟩
  have HX := hide (show plW s n x y = (r && q) by rw [hr, hq]; rfl)
  have K1 := hasStep_any s x A n c X hs
  have K2 := fun W => hasTrack_any s y A n c W hn
  rw [← hr] at K1
  simp only [← hq] at K2
  clear hr hq
  go_enter Tryz.func104, Tryz.ntmps104
  go_upto_region 1 with fail
  rw [← hX]
  clear hX
  go_wp2_with fail
  refine K1.mono ?_
  rintro e w2 ⟨rfl, hb2⟩
  have b2 := step_below hb2 hb0
  have g0 := (P0.keep hb2).cell (i := 0) rfl
  have g1 := (P0.keep hb2).cell (i := 1) rfl
  have g2 := (P1.keep hb2).cell (i := 1) rfl
  clear e0 e1 e2 e3
  cases r
  · go_wp2
    go_ret
    exact ⟨ret_bool HX.out.symm, b2⟩
  · go_wp2_with fail
    refine (K2 _).mono ?_
    rintro e w3 ⟨rfl, hb3⟩
    have b3 := step_below hb3 b2
    go_wp2
    go_ret
    exact ⟨ret_bool HX.out.symm, b3⟩
theorem canWear1_any (x : Int) (w : World) :
    Calls Tryz.prog 106 #[.int .i64 x] w fun e w' => e = .returned (.bool (!inB x 0 1000000)) ∧ w = w' := by
  go_enter Tryz.func106, Tryz.ntmps106
  go_wp2_with (go_at_call 73; refine (within_any _ _ _ _).mono ?_; rintro e w' ⟨rfl, rfl⟩)
  go_ret
  exact ⟨rfl, rfl⟩
set_option maxRecDepth 20000 in
set_option maxHeartbeats 1000000 in
theorem indexStrokes_any (U : Option Addr) (v : Nat) (z : List Int) (w : World) (hU : SZ w U z) (hz : z.length ≤ 1048576) :
    Calls Tryz.prog 120 #[.slice U z.length v, .func (.func 106) #[] #[]] w fun e w' => ∃ r : Int, e = .returned (.int .i64 r) ∧ (0 ≤ r ↔ strB z = false) ∧ w = w' := by
  go_enter Tryz.func120, Tryz.ntmps120
  go_wp2_with fail
  go_loopw [8] (fun i wr => ∃ k : Nat, k ≤ z.length ∧ i = .int .i64 k ∧ ZG z k ∧ wr = w)
    (fun i _ => z.length - (intOf i).toNat)
  case atStart => exact ⟨0, Nat.zero_le _, rfl, fun j hj => absurd hj (Nat.not_lt_zero _), rfl⟩
  case round =>
    obtain ⟨k, hk, rfl, hG, rfl⟩ := hrel
    have HG := hide hG
    clear hG
    by_cases hlt : k < z.length
    · obtain ⟨b, o, rfl, hbb, c1⟩ := hU k hlt
      cases hi : inB (zAt z k) 0 1000000
      · have K1 := fun W => canWear1_any (zAt z k) W
        rw [hi] at K1
        have HI := hide hi
        clear hi hU
        go_wp2_with (go_at_call 106; with_reducible refine (K1 _).mono ?_; rintro e w' ⟨rfl, rfl⟩)
        go_ret
        exact ⟨_, rfl, ⟨fun _ => strB_no hlt HI.out, fun _ => by omega⟩, rfl⟩
      · have K1 := fun W => canWear1_any (zAt z k) W
        rw [hi] at K1
        have HI := hide hi
        clear hi hU
        go_wp2_with (go_at_call 106; with_reducible refine (K1 _).mono ?_; rintro e w' ⟨rfl, rfl⟩)
        go_roundw
        case rel => exact ⟨k + 1, hlt, by go_num, ZG_succ HG.out HI.out, by trivial⟩
        case measure => simp [intOf]; omega
    · obtain rfl : k = z.length := by omega
      have HS := hide (strB_yes HG.out)
      go_wp2
      go_ret
      exact ⟨_, rfl, ⟨fun h => absurd h (by decide), fun h => by rw [HS.out] at h; cases h⟩, rfl⟩
theorem containsStrokes_any (U : Option Addr) (v : Nat) (z : List Int) (w : World) (hU : SZ w U z) (hz : z.length ≤ 1048576) :
    Calls Tryz.prog 105 #[.slice U z.length v, .func (.func 106) #[] #[]] w fun e w' => e = .returned (.bool (!strB z)) ∧ w = w' := by
  go_enter Tryz.func105, Tryz.ntmps105
  go_wp2_with fail
  refine (indexStrokes_any U v z w hU hz).mono ?_
  rintro e w' ⟨r, rfl, hr, rfl⟩
  have HR := hide hr
  clear hr
  go_wp2
  go_ret
  refine ⟨ret_bool ?_, rfl⟩
  have := HR.out
  cases hs : strB z
  · simp [this.2 hs]
  · simp
    rcases Int.lt_or_le r 0 with h | h
    · exact h
    · have := this.1 h; rw [hs] at this; cases this
end Go.Proofs.YtcocfnjbgceidaaGreat
