import Derived.Test.YtghkcfghkbihcaaCmp
import Derived.Sort.Grow
import Derived.Test.YtghkcfghkbihcaaGak
namespace Go.Proofs.Ytghkcfghkbihcaa
open Go.RowKit
set_option maxHeartbeats 1000000 in
theorem compareNotes_grow (a p b q : Int) (w : World) :
    Calls Try.prog 39 #[.agg #[.int .i16 a, .int .i8 p], .agg #[.int .i16 b, .int .i8 q]] w fun e w' => e = .returned (.int .i64 (ordI a p b q)) ∧ ∃ (q : Nat) (os : Array Obj), w' = Go.Sort.grow (w.drewN q) os := by
  go_enter Try.func39, Try.ntmps39
  go_wp2_with fail
  have k1 : ((w.alloc (.cells #[.int .i16 a, .int .i8 p] 43)).alloc (.cells #[.int .i16 b, .int .i8 q] 43)).cell? ⟨w.heap.size, 0, none⟩ = some (.int .i16 a) := by simp [go_sem, World.cell?_alloc_past]
  have k2 : ((w.alloc (.cells #[.int .i16 a, .int .i8 p] 43)).alloc (.cells #[.int .i16 b, .int .i8 q] 43)).cell? ⟨w.heap.size, 1, none⟩ = some (.int .i8 p) := by simp [go_sem, World.cell?_alloc_past]
  have k3 : ((w.alloc (.cells #[.int .i16 a, .int .i8 p] 43)).alloc (.cells #[.int .i16 b, .int .i8 q] 43)).cell? ⟨w.heap.size + 1, 0, none⟩ = some (.int .i16 b) := by simp [go_sem]
  have k4 : ((w.alloc (.cells #[.int .i16 a, .int .i8 p] 43)).alloc (.cells #[.int .i16 b, .int .i8 q] 43)).cell? ⟨w.heap.size + 1, 1, none⟩ = some (.int .i8 q) := by simp [go_sem]
  have k5 : Below w.heap.size w ((w.alloc (.cells #[.int .i16 a, .int .i8 p] 43)).alloc (.cells #[.int .i16 b, .int .i8 q] 43)) := ((Below.refl _ _).alloc (Nat.le_refl _) _).alloc (by simp) _
  obtain ⟨W, hW⟩ : ∃ W, W = ((w.alloc (.cells #[.int .i16 a, .int .i8 p] 43)).alloc (.cells #[.int .i16 b, .int .i8 q] 43)) := ⟨_, rfl⟩
  rw [← hW] at k1 k2 k3 k4 k5 ⊢
  have HW := hide hW
  clear hW
  go_region_held3 (fun w' => w'.cell? ⟨w.heap.size, 0, none⟩ = some (.int .i16 a) ∧ w'.cell? ⟨w.heap.size, 1, none⟩ = some (.int .i8 p) ∧ w'.cell? ⟨w.heap.size + 1, 0, none⟩ = some (.int .i16 b) ∧ w'.cell? ⟨w.heap.size + 1, 1, none⟩ = some (.int .i8 q) ∧ Below w.heap.size w w')
    (first | exact ⟨k1, k2, k3, k4, k5.drew⟩ | (go_split_ands; refine ⟨?_, ?_, ?_, ?_, ?_⟩ <;> first | assumption | simp [*, World.cell?_alloc_some] | exact Below.alloc (by assumption) (Below.size (by assumption)) _))
    (first | (go_at_call 44; refine (cmp16_any _ _ _).mono ?_; rintro e w2 ⟨rfl, rfl⟩) | (go_at_call 45; refine (cmp8_any _ _ _).mono ?_; rintro e w2 ⟨rfl, rfl⟩) | (go_at_call 43; refine (cmpOr_any _ (cmpI a b) (cmpI p q) _ ?_ ?_).mono ?_; (simp [go_sem]); (simp [go_sem]); rintro e w2 ⟨rfl, rfl⟩))
  go_wp2
  go_ret
  exact ⟨rfl, 1, #[_, _, _], by rw [HW.out, Go.Sort.alloc_eq_grow, Go.Sort.alloc_eq_grow, Go.Sort.alloc_eq_grow, Go.Sort.grow_grow, Go.Sort.grow_grow]; rfl⟩
end Go.Proofs.Ytghkcfghkbihcaa
namespace Go.Proofs.Ytghkcfghkbihcaa
open Go.RowKit Go.Shelf Go.Lib
open Go.Sort (SWO HoldsK PermIn SortedIn pdq pdq_sorts sorted_unique_holds)
theorem cmpLaysN (g n : Nat) (w : World) : CmpLays Try.prog 39 #[] encN 2 cfN g 0 n w :=
  fun _ _ _ _ x y => compareNotes_grow x.1 x.2 y.1 y.2 _
/-- what slices.SortFunc leaves of notes -/
def SortedP (base : Nat) (C : Option Addr) (q : Nat) (l : List (Int × Int)) (w : World) (e : Ending) (w' : World) : Prop :=
  e = .returned (.tuple #[]) ∧ w'.ownsRow base 43 2 (.slice C l.length q) l.length (cellsOf (srtN l)) ∧ Below base w w'
set_option maxHeartbeats 2000000 in
set_option maxRecDepth 100000 in
theorem sortFunc_any (C : Option Addr) (q : Nat) (l : List (Int × Int)) (base : Nat) (w : World) (h : w.ownsRow base 43 2 (.slice C l.length q) l.length (cellsOf l)) (hn : l.length ≤ 1048576) (hbase : base ≤ w.heap.size) :
    Calls Try.prog 38 #[.slice C l.length q, .func (.func 39) #[] #[]] w (SortedP base C q l w) := by
  by_cases h0 : l = []
  · subst h0
    have hp : ∀ lim W, Calls Try.prog 41 #[.slice C 0 q, .int .i64 0, .int .i64 0, .int .i64 lim, .func (.func 39) #[] #[]] W fun e w' => e = .returned (.tuple #[]) ∧ w' = W := fun lim W => AnyF.pdqsortCmpFunc_none (P := Try.prog) (ρ := sortRen) sortLays C q lim (.func (.func 39) #[] #[]) W
    have hl : ∀ W, Calls Try.prog 42 #[.int .u64 0] W fun e w' => e = .returned (.int .i64 (Lib.bitLen 0 : Nat)) ∧ w' = W := fun W => Any.bits_Len (SlLaysF0.n15.bits (P := Try.prog) (ρ := sortRen) { sortLays with }) 0 W (by omega) (by omega)
    have HO := hide h
    clear h
    go_enter Try.func38, Try.ntmps38
    go_wp2_with (first | (go_at_call 42; refine (hl _).mono ?_; rintro e w' ⟨rfl, rfl⟩) | (go_at_call 41; refine (hp _ _).mono ?_; rintro e w' ⟨rfl, rfl⟩))
    go_end0
    exact ⟨rfl, by rw [srtN_id [] List.Pairwise.nil]; exact HO.out, Below.refl _ _⟩
  · have hpos : 0 < l.length := by
      rcases Nat.eq_zero_or_pos l.length with e | e
      · exact absurd (List.eq_nil_of_length_eq_zero e) h0
      · exact e
    rcases h.2 with ⟨h', e0⟩ | ⟨g, cap, cur, h', hgb, hg, _⟩
    · omega
    · simp only [Value.slice.injEq, true_and] at h'
      obtain ⟨rfl, rfl⟩ := h'
      have hblk : g < w.heap.size := (Array.getElem?_eq_some_iff.1 hg).1
      have hsz : l.toArray.size = l.length := by simp
      have eg : ∀ args w, (callFunc 39 args).run Try.prog w = .ok (.enter 39 args) w := enters_of Try.func39 (by kernel_rfl) rfl
      have aE : ∀ w, (isAgg 43).run Try.prog w = .ok true w := Try.isAgg43
      have zE : ∀ w, (Go.sizeOf 43).run Try.prog w = .ok 2 w := Try.sizeOf43
      have hH := holds_own h
      have hp := AnyQ.pdqsortCmpFunc_all (P := Try.prog) (ρ := sortRen) sortLays 2 aE zE encN cfN 39 #[] cfN_swo g 0 q l.toArray w eg (cmpLaysN g _ w) ⟨encN_len, encN_one, hH, hblk⟩ (l.toArray.size + 1) 0 l.toArray.size (Lib.bitLen l.toArray.size) l.toArray w (by omega) rfl (SWK.start hH) (Nat.zero_le _) (Nat.le_refl _) (by rw [hsz]; omega) (Nat.lt_of_le_of_lt (Lib.bitLen_le l.toArray.size 62 (by omega) (by rw [hsz]; omega)) (by omega)) (Or.inl rfl)
      have hl : Calls Try.prog 42 #[.int .u64 (l.toArray.size : Int)] w fun e w' => e = .returned (.int .i64 (Lib.bitLen l.toArray.size : Nat)) ∧ w' = w := by
        have h := Any.bits_Len (SlLaysF0.n15.bits (P := Try.prog) (ρ := sortRen) { sortLays with }) (l.toArray.size : Int) w (by omega) (by rw [hsz]; omega)
        rwa [Int.toNat_natCast] at h
      have hs := pdq_sorts (ltOf cfN) cfN_swo l.toArray 0 l.toArray.size (Lib.bitLen l.toArray.size) true true (Nat.zero_le _) (Nat.le_refl _) (Or.inl rfl)
      have hu := sorted_unique_holds cfN_swo cfN_tot l.toArray _ hs.1 hs.2
      have hD : (pdq (ltOf cfN) l.toArray 0 l.toArray.size (Lib.bitLen l.toArray.size) true true) = (srtN l).toArray := by
        rw [← srtN_cf]
        exact Array.ext' (by rw [hu])
      rw [hD] at hp
      rw [hsz] at hp hl
      have hp' : Calls Try.prog 41 #[.slice (some ⟨g, 0, none⟩) l.length q, .int .i64 0, .int .i64 l.length, .int .i64 (Lib.bitLen l.length : Nat), .func (.func 39) #[] #[]] w fun e w' => e = .returned (.tuple #[]) ∧ w'.ownsRow base 43 2 (.slice (some ⟨g, 0, none⟩) l.length q) l.length (cellsOf (srtN l)) ∧ Below base w w' := by
        refine Calls.mono hp fun e w' ⟨he, m, os, hw⟩ => ⟨he, ?_, ?_⟩
        · rw [hw]
          exact sorted_own h (srtN_len l)
        · rw [hw]
          exact sorted_below hgb hbase
      have wr : IntKind.u64.wrap (l.length : Int) = l.length := by simp [IntKind.wrap, IntKind.bits, IntKind.signed]; omega
      clear hp hs hu hH h hg eg aE zE hsz h0
      obtain ⟨bl, hbl⟩ : ∃ bl : Nat, bl = Lib.bitLen l.length := ⟨_, rfl⟩
      rw [← hbl] at hp' hl
      clear hbl
      go_enter Try.func38, Try.ntmps38
      go_wp2_with (first | (go_at_call 42; refine hl.mono ?_; rintro e w' ⟨rfl, rfl⟩) | (go_at_call 41; refine hp'.mono ?_; rintro e w' ⟨rfl, ho, hb⟩))
      go_end0
      exact ⟨rfl, ho, hb⟩
end Go.Proofs.Ytghkcfghkbihcaa
