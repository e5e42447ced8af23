import Derived.Test.YtcocfnjbgceidaaGreatWsr
import Derived.Test.YtcocfnjbgceidaaGreatWsl
namespace Go.Proofs.YtcocfnjbgceidaaGreat
open Go.RowKit Go.Shelf Go.Lib
open Go.Sort (SWO HoldsK PermIn SortedIn pdq pdq_sorts sorted_unique_holds)
theorem cmpLaysW (g n : Nat) (w : World) : CmpLays Tryz.prog 102 #[] encW 3 cfW g 0 n w :=
  fun _ _ _ _ x y => compareWornPins_grow x.1 x.2.1 x.2.2 y.1 y.2.1 y.2.2 _
/-- what slices.SortFunc leaves of notes -/
def SortedW (base : Nat) (C : Option Addr) (q : Nat) (l T : List (Int × Int × Int)) (w : World) (e : Ending) (w' : World) : Prop :=
  e = .returned (.tuple #[]) ∧ w'.ownsRow base 97 3 (.slice C l.length q) l.length (wnC T) ∧ Below base w w' ∧ w.grownBy w' (Value.slice C l.length q).ownBlock
set_option maxHeartbeats 2000000 in
set_option maxRecDepth 100000 in
theorem sortFuncW_any (C : Option Addr) (q : Nat) (l T : List (Int × Int × Int)) (base : Nat) (w : World) (h : w.ownsRow base 97 3 (.slice C l.length q) l.length (wnC l)) (hn : l.length ≤ 1048576) (hbase : base ≤ w.heap.size) (hT : AscL T) (hTp : T.Perm l) :
    Calls Tryz.prog 122 #[.slice C l.length q, .func (.func 102) #[] #[]] w (SortedW base C q l T w) := by
  by_cases h0 : l = []
  · subst h0
    have hp : ∀ lim W, Calls Tryz.prog 125 #[.slice C 0 q, .int .i64 0, .int .i64 0, .int .i64 lim, .func (.func 102) #[] #[]] W fun e w' => e = .returned (.tuple #[]) ∧ w' = W := fun lim W => AnyF.pdqsortCmpFunc_none (P := Tryz.prog) (ρ := sortRenW) sortLaysW C q lim (.func (.func 102) #[] #[]) W
    have hl : ∀ W, Calls Tryz.prog 126 #[.int .u64 0] W fun e w' => e = .returned (.int .i64 (Lib.bitLen 0 : Nat)) ∧ w' = W := fun W => Any.bits_Len (SlLaysF0.n15.bits (P := Tryz.prog) (ρ := sortRenW) { sortLaysW with }) 0 W (by omega) (by omega)
    have HO := hide h
    clear h
    go_enter Tryz.func122, Tryz.ntmps122
    go_wp2_with (first | (go_at_call 126; refine (hl _).mono ?_; rintro e w' ⟨rfl, rfl⟩) | (go_at_call 125; refine (hp _ _).mono ?_; rintro e w' ⟨rfl, rfl⟩))
    go_end0
    obtain rfl : T = [] := List.perm_nil.1 hTp
    exact ⟨rfl, HO.out, Below.refl _ _, rfl, rfl, rfl, Nat.le_refl _, fun _ _ _ => rfl⟩
  · have hpos : 0 < l.length := by
      rcases Nat.eq_zero_or_pos l.length with e | e
      · exact absurd (List.eq_nil_of_length_eq_zero e) h0
      · exact e
    rcases h.2 with ⟨h', e0⟩ | ⟨g, cap, cur, h', hgb, hg, _⟩
    · omega
    · simp only [Value.slice.injEq, true_and] at h'
      obtain ⟨rfl, rfl⟩ := h'
      have hblk : g < w.heap.size := (Array.getElem?_eq_some_iff.1 hg).1
      have hsz : l.toArray.size = l.length := by simp
      have eg : ∀ args w, (callFunc 102 args).run Tryz.prog w = .ok (.enter 102 args) w := enters_of Tryz.func102 (by kernel_rfl) rfl
      have aE : ∀ w, (isAgg 97).run Tryz.prog w = .ok true w := Tryz.isAgg97
      have zE : ∀ w, (Go.sizeOf 97).run Tryz.prog w = .ok 3 w := Tryz.sizeOf97
      have hH := holds_ownW h
      have hp := AnyQ.pdqsortCmpFunc_all (P := Tryz.prog) (ρ := sortRenW) sortLaysW 3 aE zE encW cfW 102 #[] cfW_swo g 0 q l.toArray w eg (cmpLaysW g _ w) ⟨encW_len, encW_one, hH, hblk⟩ (l.toArray.size + 1) 0 l.toArray.size (Lib.bitLen l.toArray.size) l.toArray w (by omega) rfl (SWK.start hH) (Nat.zero_le _) (Nat.le_refl _) (by rw [hsz]; omega) (Nat.lt_of_le_of_lt (Lib.bitLen_le l.toArray.size 62 (by omega) (by rw [hsz]; omega)) (by omega)) (Or.inl rfl)
      have hl : Calls Tryz.prog 126 #[.int .u64 (l.toArray.size : Int)] w fun e w' => e = .returned (.int .i64 (Lib.bitLen l.toArray.size : Nat)) ∧ w' = w := by
        have h := Any.bits_Len (SlLaysF0.n15.bits (P := Tryz.prog) (ρ := sortRenW) { sortLaysW with }) (l.toArray.size : Int) w (by omega) (by rw [hsz]; omega)
        rwa [Int.toNat_natCast] at h
      have hs := pdq_sorts (ltOf cfW) cfW_swo l.toArray 0 l.toArray.size (Lib.bitLen l.toArray.size) true true (Nat.zero_le _) (Nat.le_refl _) (Or.inl rfl)
      have hD : (pdq (ltOf cfW) l.toArray 0 l.toArray.size (Lib.bitLen l.toArray.size) true true) = T.toArray := Array.ext' (sortedW_unique hT hTp hs.1 hs.2)
      rw [hD] at hp
      rw [hsz] at hp hl
      have hp' : Calls Tryz.prog 125 #[.slice (some ⟨g, 0, none⟩) l.length q, .int .i64 0, .int .i64 l.length, .int .i64 (Lib.bitLen l.length : Nat), .func (.func 102) #[] #[]] w fun e w' => e = .returned (.tuple #[]) ∧ w'.ownsRow base 97 3 (.slice (some ⟨g, 0, none⟩) l.length q) l.length (wnC T) ∧ Below base w w' ∧ w.grownBy w' (some g) := by
        refine Calls.mono hp fun e w' ⟨he, m, os, hw⟩ => ⟨he, ?_, ?_, by rw [hw]; exact sorted_grownW⟩
        · rw [hw]
          exact sorted_ownW h hTp.length_eq
        · rw [hw]
          exact sorted_belowW hgb hbase
      have wr : IntKind.u64.wrap (l.length : Int) = l.length := by simp [IntKind.wrap, IntKind.bits, IntKind.signed]; omega
      clear hp hs hH h hg eg aE zE hsz h0
      obtain ⟨bl, hbl⟩ : ∃ bl : Nat, bl = Lib.bitLen l.length := ⟨_, rfl⟩
      rw [← hbl] at hp' hl
      clear hbl
      go_enter Tryz.func122, Tryz.ntmps122
      go_wp2_with (first | (go_at_call 126; refine hl.mono ?_; rintro e w' ⟨rfl, rfl⟩) | (go_at_call 125; refine hp'.mono ?_; rintro e w' ⟨rfl, ho, hb, hgr⟩))
      go_end0
      exact ⟨rfl, ho, hb, hgr⟩
end Go.Proofs.YtcocfnjbgceidaaGreat
