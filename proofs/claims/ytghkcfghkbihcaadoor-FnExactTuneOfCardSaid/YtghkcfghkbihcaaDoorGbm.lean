import Derived.Test.YtghkcfghkbihcaaDoorGbk
import Derived.Test.YtghkcfghkbihcaaDoorGbl
import Derived.Test.YtghkcfghkbihcaaDoorGbe
namespace Go.Proofs.YtghkcfghkbihcaaDoor
open Go.RowKit Go.Shelf Go.Lib
open Go.Sort (SWO HoldsK PermIn SortedIn pdq pdq_sorts sorted_unique_holds)
theorem cmpLaysN (g n : Nat) (w : World) : CmpLays Tryd.prog 52 #[] encN 2 cfN g 0 n w :=
  fun _ _ _ _ x y => compareNotes_grow x.1 x.2 y.1 y.2 _
/-- what slices.SortFunc leaves of notes -/
def SortedP (base : Nat) (C : Option Addr) (q : Nat) (l : List (Int × Int)) (w : World) (e : Ending) (w' : World) : Prop :=
  e = .returned (.tuple #[]) ∧ w'.ownsRow base 71 2 (.slice C l.length q) l.length (cellsOf (srtN l)) ∧ Below base w w'
set_option maxHeartbeats 2000000 in
set_option maxRecDepth 100000 in
theorem sortFunc_any (C : Option Addr) (q : Nat) (l : List (Int × Int)) (base : Nat) (w : World) (h : w.ownsRow base 71 2 (.slice C l.length q) l.length (cellsOf l)) (hn : l.length ≤ 1048576) (hbase : base ≤ w.heap.size) :
    Calls Tryd.prog 51 #[.slice C l.length q, .func (.func 52) #[] #[]] w (SortedP base C q l w) := by
  by_cases h0 : l = []
  · subst h0
    have hp : ∀ lim W, Calls Tryd.prog 72 #[.slice C 0 q, .int .i64 0, .int .i64 0, .int .i64 lim, .func (.func 52) #[] #[]] W fun e w' => e = .returned (.tuple #[]) ∧ w' = W := fun lim W => AnyF.pdqsortCmpFunc_none (P := Tryd.prog) (ρ := sortRen) sortLays C q lim (.func (.func 52) #[] #[]) W
    have hl : ∀ W, Calls Tryd.prog 73 #[.int .u64 0] W fun e w' => e = .returned (.int .i64 (Lib.bitLen 0 : Nat)) ∧ w' = W := fun W => Any.bits_Len (SlLaysF0.n15.bits (P := Tryd.prog) (ρ := sortRen) { sortLays with }) 0 W (by omega) (by omega)
    have HO := hide h
    clear h
    go_enter Tryd.func51, Tryd.ntmps51
    go_wp2_with (first | (go_at_call 73; refine (hl _).mono ?_; rintro e w' ⟨rfl, rfl⟩) | (go_at_call 72; refine (hp _ _).mono ?_; rintro e w' ⟨rfl, rfl⟩))
    go_end0
    exact ⟨rfl, by rw [srtN_id [] List.Pairwise.nil]; exact HO.out, Below.refl _ _⟩
  · have hpos : 0 < l.length := by
      rcases Nat.eq_zero_or_pos l.length with e | e
      · exact absurd (List.eq_nil_of_length_eq_zero e) h0
      · exact e
    rcases h.2 with ⟨h', e0⟩ | ⟨g, cap, cur, h', hgb, hg, _⟩
    · omega
    · simp only [Value.slice.injEq, true_and] at h'
      obtain ⟨rfl, rfl⟩ := h'
      have hblk : g < w.heap.size := (Array.getElem?_eq_some_iff.1 hg).1
      have hsz : l.toArray.size = l.length := by simp
      have eg : ∀ args w, (callFunc 52 args).run Tryd.prog w = .ok (.enter 52 args) w := enters_of Tryd.func52 (by kernel_rfl) rfl
      have aE : ∀ w, (isAgg 71).run Tryd.prog w = .ok true w := Tryd.isAgg71
      have zE : ∀ w, (Go.sizeOf 71).run Tryd.prog w = .ok 2 w := Tryd.sizeOf71
      have hH := holds_own h
      have hp := AnyQ.pdqsortCmpFunc_all (P := Tryd.prog) (ρ := sortRen) sortLays 2 aE zE encN cfN 52 #[] cfN_swo g 0 q l.toArray w eg (cmpLaysN g _ w) ⟨encN_len, encN_one, hH, hblk⟩ (l.toArray.size + 1) 0 l.toArray.size (Lib.bitLen l.toArray.size) l.toArray w (by omega) rfl (SWK.start hH) (Nat.zero_le _) (Nat.le_refl _) (by rw [hsz]; omega) (Nat.lt_of_le_of_lt (Lib.bitLen_le l.toArray.size 62 (by omega) (by rw [hsz]; omega)) (by omega)) (Or.inl rfl)
      have hl : Calls Tryd.prog 73 #[.int .u64 (l.toArray.size : Int)] w fun e w' => e = .returned (.int .i64 (Lib.bitLen l.toArray.size : Nat)) ∧ w' = w := by
        have h := Any.bits_Len (SlLaysF0.n15.bits (P := Tryd.prog) (ρ := sortRen) { sortLays with }) (l.toArray.size : Int) w (by omega) (by rw [hsz]; omega)
        rwa [Int.toNat_natCast] at h
      have hs := pdq_sorts (ltOf cfN) cfN_swo l.toArray 0 l.toArray.size (Lib.bitLen l.toArray.size) true true (Nat.zero_le _) (Nat.le_refl _) (Or.inl rfl)
      have hu := sorted_unique_holds cfN_swo cfN_tot l.toArray _ hs.1 hs.2
      have hD : (pdq (ltOf cfN) l.toArray 0 l.toArray.size (Lib.bitLen l.toArray.size) true true) = (srtN l).toArray := by
        rw [← srtN_cf]
        exact Array.ext' (by rw [hu])
      rw [hD] at hp
      rw [hsz] at hp hl
      have hp' : Calls Tryd.prog 72 #[.slice (some ⟨g, 0, none⟩) l.length q, .int .i64 0, .int .i64 l.length, .int .i64 (Lib.bitLen l.length : Nat), .func (.func 52) #[] #[]] w fun e w' => e = .returned (.tuple #[]) ∧ w'.ownsRow base 71 2 (.slice (some ⟨g, 0, none⟩) l.length q) l.length (cellsOf (srtN l)) ∧ Below base w w' := by
        refine Calls.mono hp fun e w' ⟨he, m, os, hw⟩ => ⟨he, ?_, ?_⟩
        · rw [hw]
          exact sorted_own h (srtN_len l)
        · rw [hw]
          exact sorted_below hgb hbase
      have wr : IntKind.u64.wrap (l.length : Int) = l.length := by simp [IntKind.wrap, IntKind.bits, IntKind.signed]; omega
      clear hp hs hu hH h hg eg aE zE hsz h0
      obtain ⟨bl, hbl⟩ : ∃ bl : Nat, bl = Lib.bitLen l.length := ⟨_, rfl⟩
      rw [← hbl] at hp' hl
      clear hbl
      go_enter Tryd.func51, Tryd.ntmps51
      go_wp2_with (first | (go_at_call 73; refine hl.mono ?_; rintro e w' ⟨rfl, rfl⟩) | (go_at_call 72; refine hp'.mono ?_; rintro e w' ⟨rfl, ho, hb⟩))
      go_end0
      exact ⟨rfl, ho, hb⟩
end Go.Proofs.YtghkcfghkbihcaaDoor
namespace Go.Proofs.YtghkcfghkbihcaaDoor
open Go.RowKit
theorem eqNote_any (a p b q : Int) (w : World) :
    Calls Tryd.prog 32 #[.agg #[.int .i16 a, .int .i8 p], .agg #[.int .i16 b, .int .i8 q]] w fun e w' => e = .returned (.bool (decide (a = b ∧ p = q))) ∧ Below w.heap.size w w' := by
  go_enter Tryd.func32, Tryd.ntmps32
  go_wp2
  all_goals go_ret
  all_goals exact ⟨ret_bool (by simp_all), by repeat (first | exact Below.refl _ _ | refine Below.alloc ?_ (by simp <;> omega) _)⟩
theorem same_of (l m : List (Int × Int)) (hl : l.length = m.length) (h : ∀ k, k < l.length → nAt l k = nAt m k ∧ nPi l k = nPi m k) : sameB l m = true := by
  refine decide_eq_true (List.ext_getElem hl fun k h1 h2 => ?_)
  have := h k h1
  simp only [nAt, nPi, List.getD, List.getElem?_eq_getElem h1, List.getElem?_eq_getElem h2, Option.getD_some] at this
  exact Prod.ext this.1 this.2
theorem same_not (l m : List (Int × Int)) (k : Nat) (h : ¬ (nAt l k = nAt m k ∧ nPi l k = nPi m k)) : sameB l m = false := by
  refine decide_eq_false fun e => h ?_
  rw [e]
  exact ⟨rfl, rfl⟩

set_option maxHeartbeats 400000 in
theorem eqTune_any (A B : Option Addr) (c d : Nat) (l m : List (Int × Int)) (w : World) (hA : NA w A l) (hB : NA w B m) (hn : l.length ≤ 1048576) (_hm : m.length ≤ 1048576) :
    Calls Tryd.prog 11 #[.slice A l.length c, .slice B m.length d] w (Says (sameB l m) w) := by
  by_cases hlm : l.length = m.length
  · have HL := hide hlm
    have H1 : ((l.length : Int) != (m.length : Int)) = false := by simp [hlm]
    have H2 : (l.length != m.length) = false := by simp [hlm]
    clear hlm
    go_enter Tryd.func11, Tryd.ntmps11
    go_wp2_with fail
    go_loopw [5] (fun i wr => ∃ k : Nat, k ≤ l.length ∧ i = .int .i64 k ∧ (∀ j, j < k → nAt l j = nAt m j ∧ nPi l j = nPi m j) ∧ Below w.heap.size w wr)
      (fun i _ => l.length - (intOf i).toNat)
    case atStart =>
      exact ⟨0, Nat.zero_le _, rfl, fun j hj => absurd hj (Nat.not_lt_zero _), Below.refl _ _⟩
    case round =>
      obtain ⟨k, hk, rfl, hG, hb⟩ := hrel
      have HG := hide hG
      clear hG
      by_cases hlt : k < l.length
      · have hlt2 : k < m.length := by rw [← HL.out]; exact hlt
        obtain ⟨b, o, rfl, hbb, c1, c2⟩ := hA k hlt
        obtain ⟨b', o', rfl, hbb', c3, c4⟩ := hB k hlt2
        have d1 := Later.cell ((hb.cell (p := ⟨b, o + k * 2, none⟩) hbb).trans c1)
        have d2 := Later.cell ((hb.cell (p := ⟨b, o + k * 2 + 1, none⟩) hbb).trans c2)
        have d3 := Later.cell ((hb.cell (p := ⟨b', o' + k * 2, none⟩) hbb').trans c3)
        have d4 := Later.cell ((hb.cell (p := ⟨b', o' + k * 2 + 1, none⟩) hbb').trans c4)
        have hs := hb.size
        clear c1 c2 c3 c4 hA hB
        by_cases he : nAt l k = nAt m k ∧ nPi l k = nPi m k
        · have HE := hide he
          have HD := hide (decide_eq_true he)
          clear he
          go_wp2_with fail
          refine wp_region_later (by kernel_rfl) (by kernel_rfl) ?_
          repeat (go_big_quiet_step ((go_at_call 32; exact Later.call (HD.out ▸ eqNote_any _ _ _ _ _))))
          refine wpQuiet_nil ?_
          rintro _ ⟨⟨wq, hq⟩, rfl⟩
          go_wp2
          go_roundw
          case rel => exact ⟨k + 1, by omega, by go_num, fun j hj => by
            rcases Nat.lt_or_ge j k with h1 | h1
            · exact HG.out j h1
            · rw [show j = k by omega]; exact HE.out, hb.trans (hq.mono hs)⟩
          case measure => simp [intOf]; omega
        · have HE := hide he
          have HD := hide (decide_eq_false he)
          clear he
          go_wp2_with fail
          refine wp_region_later (by kernel_rfl) (by kernel_rfl) ?_
          repeat (go_big_quiet_step ((go_at_call 32; exact Later.call (HD.out ▸ eqNote_any _ _ _ _ _))))
          refine wpQuiet_nil ?_
          rintro _ ⟨⟨wq, hq⟩, rfl⟩
          go_wp2
          go_ret
          exact ⟨ret_bool (same_not l m k HE.out).symm, hb.trans (hq.mono hs)⟩
      · obtain rfl : k = l.length := by omega
        go_wp2
        go_ret
        exact ⟨ret_bool (same_of l m HL.out HG.out).symm, hb⟩
  · have H1 : ((l.length : Int) != (m.length : Int)) = true := by simp; omega
    have H2 : (l.length != m.length) = true := by simpa using hlm
    have HL := hide hlm
    clear hlm
    go_enter Tryd.func11, Tryd.ntmps11
    go_wp2
    go_ret
    exact ⟨ret_bool (decide_eq_false fun e => HL.out (by rw [e])).symm, Below.refl _ _⟩
theorem toTune_ex (A : Option Addr) (c : Nat) (l : List (Int × Int)) (w : World) (hA : NA w A l) (hn : l.length ≤ 1048576) :
    Calls Tryd.prog 18 #[.slice A l.length c] w fun e w' => ∃ g, e = .returned (.slice (some ⟨g, 0, none⟩) l.length l.length) ∧ w.heap.size ≤ g ∧ w'.ownsRow w.heap.size 71 2 (.slice (some ⟨g, 0, none⟩) l.length l.length) l.length (cellsOf l) ∧ Below w.heap.size w w' :=
  (toTune_any A c l w hA hn).mono fun _ _ ⟨h1, h2, h3⟩ => ⟨_, h1, Nat.le_refl _, h2, h3⟩
theorem eqTune_self (A B : Option Addr) (c d : Nat) (l : List (Int × Int)) (w : World) (hA : NA w A l) (hB : NA w B l) (hn : l.length ≤ 1048576) :
    Calls Tryd.prog 11 #[.slice A l.length c, .slice B l.length d] w (Says true w) := by
  have h := eqTune_any A B c d l l w hA hB hn hn
  rwa [sameB_refl] at h
theorem szTune_small (A : Option Addr) (n c : Nat) (x : Int) (h0 : 0 ≤ x) (h1 : x ≤ 1048576) (hm : n ≤ maxLen) (hs : (n : Int) ≤ x) (w : World) :
    Calls Tryd.prog 16 #[.slice A n c, .int .i64 x] w fun e w' => e = .returned (.int .i64 (x - n)) ∧ w = w' := by
  unfold maxLen at hm
  go_enter Tryd.func16, Tryd.ntmps16
  go_wp2
  all_goals go_ret
  all_goals exact ⟨ret_int (by omega), rfl⟩
theorem szTune_big (A : Option Addr) (n c : Nat) (x : Int) (h0 : 0 ≤ x) (h1 : x ≤ 1048576) (hm : n ≤ maxLen) (hs : x < (n : Int)) (w : World) :
    Calls Tryd.prog 16 #[.slice A n c, .int .i64 x] w fun e w' => e = .returned (.int .i64 (-1)) ∧ w = w' := by
  unfold maxLen at hm
  go_enter Tryd.func16, Tryd.ntmps16
  go_wp2
  all_goals go_ret
  all_goals exact ⟨ret_int (by omega), rfl⟩
end Go.Proofs.YtghkcfghkbihcaaDoor
