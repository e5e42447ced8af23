import Derived.Ground.SlsfProg
import Derived.Shelf.SlSortCmp.NoneTotal
import Derived.Test.YtcocfnjbgceidaaDoorGaa
import Derived.Test.YtcocfnjbgceidaaDoorWsr
namespace Go.Proofs.YtcocfnjbgceidaaDoor
open Go.RowKit Go.Shelf
/-- the sort's facts at this program, for the contract of whatever element type -/
def sortRenW : Go.Shelf.Ren := ⟨fun | 14 => 51 | 15 => 52 | 20 => 53 | 21 => 54 | 22 => 55 | 23 => 56 | 24 => 57 | 25 => 58 | 26 => 59 | 27 => 60 | 28 => 61 | 29 => 62 | 46 => 63 | 47 => 64 | 48 => 65 | 49 => 66 | 50 => 67 | 57 => 68 | n => n, fun | 0 => 0 | 1 => 1 | 2 => 2 | 3 => 3 | 4 => 4 | 5 => 5 | 6 => 6 | 7 => 7 | 8 => 8 | 9 => 9 | 10 => 10 | 11 => 11 | 12 => 12 | 13 => 13 | 14 => 14 | 15 => 15 | 16 => 16 | 17 => 17 | 18 => 18 | 19 => 19 | 20 => 20 | 21 => 21 | 22 => 29 | 24 => 53 | 25 => 97 | 27 => 103 | 37 => 105 | 38 => 106 | 39 => 78 | 44 => 107 | 45 => 108 | 46 => 109 | 47 => 110 | 48 => 111 | 49 => 112 | 50 => 113 | 51 => 114 | 52 => 88 | 53 => 26 | 54 => 115 | 55 => 116 | 66 => 117 | 67 => 118 | 68 => 119 | 69 => 120 | 70 => 121 | 71 => 122 | 76 => 123 | 77 => 124 | 78 => 125 | 81 => 126 | 82 => 127 | 83 => 128 | 84 => 129 | 85 => 130 | 86 => 131 | 87 => 132 | 88 => 133 | 89 => 134 | 90 => 135 | 91 => 136 | 92 => 137 | 93 => 138 | 94 => 139 | 95 => 140 | 96 => 146 | n => n, fun | n => n⟩
theorem sortLaysW : Go.Proofs.SlLaysF0.n14 Tryd.prog sortRenW := {
  mixed := by kernel_rfl
  f14 := ⟨Tryd.f51.name, by decide, Tryd.func51.trans (congrArg some (by kernel_rfl))⟩
  f15 := Tryd.func52.trans (congrArg some (by kernel_rfl))
  f20 := ⟨Tryd.f53.name, by decide, Tryd.func53.trans (congrArg some (by kernel_rfl))⟩
  f21 := ⟨Tryd.f54.name, by decide, Tryd.func54.trans (congrArg some (by kernel_rfl))⟩
  f22 := ⟨Tryd.f55.name, by decide, Tryd.func55.trans (congrArg some (by kernel_rfl))⟩
  f23 := ⟨Tryd.f56.name, by decide, Tryd.func56.trans (congrArg some (by kernel_rfl))⟩
  f24 := ⟨Tryd.f57.name, by decide, Tryd.func57.trans (congrArg some (by kernel_rfl))⟩
  f25 := ⟨Tryd.f58.name, by decide, Tryd.func58.trans (congrArg some (by kernel_rfl))⟩
  f26 := ⟨Tryd.f59.name, by decide, Tryd.func59.trans (congrArg some (by kernel_rfl))⟩
  f27 := ⟨Tryd.f60.name, by decide, Tryd.func60.trans (congrArg some (by kernel_rfl))⟩
  f28 := Tryd.func61.trans (congrArg some (by kernel_rfl))
  f29 := Tryd.func62.trans (congrArg some (by kernel_rfl))
  f46 := ⟨Tryd.f63.name, by decide, Tryd.func63.trans (congrArg some (by kernel_rfl))⟩
  f47 := Tryd.func64.trans (congrArg some (by kernel_rfl))
  f48 := Tryd.func65.trans (congrArg some (by kernel_rfl))
  f49 := ⟨Tryd.f66.name, by decide, Tryd.func66.trans (congrArg some (by kernel_rfl))⟩
  f50 := ⟨Tryd.f67.name, by decide, Tryd.func67.trans (congrArg some (by kernel_rfl))⟩
  f57 := ⟨Tryd.f68.name, by decide, Tryd.func68.trans (congrArg some (by kernel_rfl))⟩
  t0 := Tryd.underlying0
  a0 := Tryd.isAgg0
  z0 := Tryd.sizeOf0
  v0 := Tryd.zeroValue0
  t3 := Tryd.underlying3
  a3 := Tryd.isAgg3
  z3 := Tryd.sizeOf3
  v3 := Tryd.zeroValue3
  t4 := Tryd.underlying4
  a4 := Tryd.isAgg4
  z4 := Tryd.sizeOf4
  v4 := Tryd.zeroValue4
  t5 := Tryd.underlying5
  a5 := Tryd.isAgg5
  z5 := Tryd.sizeOf5
  v5 := Tryd.zeroValue5
  t9 := Tryd.underlying9
  a9 := Tryd.isAgg9
  z9 := Tryd.sizeOf9
  v9 := Tryd.zeroValue9
  t22 := Tryd.underlying29
  a22 := Tryd.isAgg29
  z22 := Tryd.sizeOf29
  v22 := Tryd.zeroValue29
  t25 := Tryd.underlying97
  a25 := Tryd.isAgg97
  z25 := Tryd.sizeOf97
  v25 := Tryd.zeroValue97
  t39 := Tryd.underlying78
  a39 := Tryd.isAgg78
  z39 := Tryd.sizeOf78
  v39 := Tryd.zeroValue78
  t45 := Tryd.underlying108
  a45 := Tryd.isAgg108
  z45 := Tryd.sizeOf108
  v45 := Tryd.zeroValue108
  t46 := Tryd.underlying109
  a46 := Tryd.isAgg109
  z46 := Tryd.sizeOf109
  v46 := Tryd.zeroValue109
  t50 := Tryd.underlying113
  a50 := Tryd.isAgg113
  z50 := Tryd.sizeOf113
  v50 := Tryd.zeroValue113
  t53 := Tryd.underlying26
  a53 := Tryd.isAgg26
  z53 := Tryd.sizeOf26
  v53 := Tryd.zeroValue26
  t55 := Tryd.underlying116
  a55 := Tryd.isAgg116
  z55 := Tryd.sizeOf116
  v55 := Tryd.zeroValue116
  t66 := Tryd.underlying117
  a66 := Tryd.isAgg117
  z66 := Tryd.sizeOf117
  v66 := Tryd.zeroValue117
  t70 := Tryd.underlying121
  a70 := Tryd.isAgg121
  z70 := Tryd.sizeOf121
  v70 := Tryd.zeroValue121
  t76 := Tryd.underlying123
  a76 := Tryd.isAgg123
  z76 := Tryd.sizeOf123
  v76 := Tryd.zeroValue123
  t77 := Tryd.underlying124
  a77 := Tryd.isAgg124
  z77 := Tryd.sizeOf124
  v77 := Tryd.zeroValue124 }
end Go.Proofs.YtcocfnjbgceidaaDoor
namespace Go.Proofs.YtcocfnjbgceidaaDoor
open Go.RowKit Go.Shelf Go.Lib
open Go.Sort (SWO HoldsK PermIn SortedIn pdq pdq_sorts sorted_unique_holds)
theorem cmpLaysW (g n : Nat) (w : World) : CmpLays Tryd.prog 45 #[] encW 3 cfW g 0 n w :=
  fun _ _ _ _ x y => compareWornPins_grow x.1 x.2.1 x.2.2 y.1 y.2.1 y.2.2 _
/-- what slices.SortFunc leaves of notes -/
def SortedW (base : Nat) (C : Option Addr) (q : Nat) (l T : List (Int × Int × Int)) (w : World) (e : Ending) (w' : World) : Prop :=
  e = .returned (.tuple #[]) ∧ w'.ownsRow base 53 3 (.slice C l.length q) l.length (wnC T) ∧ Below base w w' ∧ w.grownBy w' (Value.slice C l.length q).ownBlock
set_option maxHeartbeats 2000000 in
set_option maxRecDepth 100000 in
theorem sortFuncW_any (C : Option Addr) (q : Nat) (l T : List (Int × Int × Int)) (base : Nat) (w : World) (h : w.ownsRow base 53 3 (.slice C l.length q) l.length (wnC l)) (hn : l.length ≤ 1048576) (hbase : base ≤ w.heap.size) (hT : AscL T) (hTp : T.Perm l) :
    Calls Tryd.prog 49 #[.slice C l.length q, .func (.func 45) #[] #[]] w (SortedW base C q l T w) := by
  by_cases h0 : l = []
  · subst h0
    have hp : ∀ lim W, Calls Tryd.prog 51 #[.slice C 0 q, .int .i64 0, .int .i64 0, .int .i64 lim, .func (.func 45) #[] #[]] W fun e w' => e = .returned (.tuple #[]) ∧ w' = W := fun lim W => AnyF.pdqsortCmpFunc_none (P := Tryd.prog) (ρ := sortRenW) sortLaysW C q lim (.func (.func 45) #[] #[]) W
    have hl : ∀ W, Calls Tryd.prog 52 #[.int .u64 0] W fun e w' => e = .returned (.int .i64 (Lib.bitLen 0 : Nat)) ∧ w' = W := fun W => Any.bits_Len (SlLaysF0.n15.bits (P := Tryd.prog) (ρ := sortRenW) { sortLaysW with }) 0 W (by omega) (by omega)
    have HO := hide h
    clear h
    go_enter Tryd.func49, Tryd.ntmps49
    go_wp2_with (first | (go_at_call 52; refine (hl _).mono ?_; rintro e w' ⟨rfl, rfl⟩) | (go_at_call 51; refine (hp _ _).mono ?_; rintro e w' ⟨rfl, rfl⟩))
    go_end0
    obtain rfl : T = [] := List.perm_nil.1 hTp
    exact ⟨rfl, HO.out, Below.refl _ _, rfl, rfl, rfl, Nat.le_refl _, fun _ _ _ => rfl⟩
  · have hpos : 0 < l.length := by
      rcases Nat.eq_zero_or_pos l.length with e | e
      · exact absurd (List.eq_nil_of_length_eq_zero e) h0
      · exact e
    rcases h.2 with ⟨h', e0⟩ | ⟨g, cap, cur, h', hgb, hg, _⟩
    · omega
    · simp only [Value.slice.injEq, true_and] at h'
      obtain ⟨rfl, rfl⟩ := h'
      have hblk : g < w.heap.size := (Array.getElem?_eq_some_iff.1 hg).1
      have hsz : l.toArray.size = l.length := by simp
      have eg : ∀ args w, (callFunc 45 args).run Tryd.prog w = .ok (.enter 45 args) w := enters_of Tryd.func45 (by kernel_rfl) rfl
      have aE : ∀ w, (isAgg 53).run Tryd.prog w = .ok true w := Tryd.isAgg53
      have zE : ∀ w, (Go.sizeOf 53).run Tryd.prog w = .ok 3 w := Tryd.sizeOf53
      have hH := holds_ownW h
      have hp := AnyQ.pdqsortCmpFunc_all (P := Tryd.prog) (ρ := sortRenW) sortLaysW 3 aE zE encW cfW 45 #[] cfW_swo g 0 q l.toArray w eg (cmpLaysW g _ w) ⟨encW_len, encW_one, hH, hblk⟩ (l.toArray.size + 1) 0 l.toArray.size (Lib.bitLen l.toArray.size) l.toArray w (by omega) rfl (SWK.start hH) (Nat.zero_le _) (Nat.le_refl _) (by rw [hsz]; omega) (Nat.lt_of_le_of_lt (Lib.bitLen_le l.toArray.size 62 (by omega) (by rw [hsz]; omega)) (by omega)) (Or.inl rfl)
      have hl : Calls Tryd.prog 52 #[.int .u64 (l.toArray.size : Int)] w fun e w' => e = .returned (.int .i64 (Lib.bitLen l.toArray.size : Nat)) ∧ w' = w := by
        have h := Any.bits_Len (SlLaysF0.n15.bits (P := Tryd.prog) (ρ := sortRenW) { sortLaysW with }) (l.toArray.size : Int) w (by omega) (by rw [hsz]; omega)
        rwa [Int.toNat_natCast] at h
      have hs := pdq_sorts (ltOf cfW) cfW_swo l.toArray 0 l.toArray.size (Lib.bitLen l.toArray.size) true true (Nat.zero_le _) (Nat.le_refl _) (Or.inl rfl)
      have hD : (pdq (ltOf cfW) l.toArray 0 l.toArray.size (Lib.bitLen l.toArray.size) true true) = T.toArray := Array.ext' (sortedW_unique hT hTp hs.1 hs.2)
      rw [hD] at hp
      rw [hsz] at hp hl
      have hp' : Calls Tryd.prog 51 #[.slice (some ⟨g, 0, none⟩) l.length q, .int .i64 0, .int .i64 l.length, .int .i64 (Lib.bitLen l.length : Nat), .func (.func 45) #[] #[]] w fun e w' => e = .returned (.tuple #[]) ∧ w'.ownsRow base 53 3 (.slice (some ⟨g, 0, none⟩) l.length q) l.length (wnC T) ∧ Below base w w' ∧ w.grownBy w' (some g) := by
        refine Calls.mono hp fun e w' ⟨he, m, os, hw⟩ => ⟨he, ?_, ?_, by rw [hw]; exact sorted_grownW⟩
        · rw [hw]
          exact sorted_ownW h hTp.length_eq
        · rw [hw]
          exact sorted_belowW hgb hbase
      have wr : IntKind.u64.wrap (l.length : Int) = l.length := by simp [IntKind.wrap, IntKind.bits, IntKind.signed]; omega
      clear hp hs hH h hg eg aE zE hsz h0
      obtain ⟨bl, hbl⟩ : ∃ bl : Nat, bl = Lib.bitLen l.length := ⟨_, rfl⟩
      rw [← hbl] at hp' hl
      clear hbl
      go_enter Tryd.func49, Tryd.ntmps49
      go_wp2_with (first | (go_at_call 52; refine hl.mono ?_; rintro e w' ⟨rfl, rfl⟩) | (go_at_call 51; refine hp'.mono ?_; rintro e w' ⟨rfl, ho, hb, hgr⟩))
      go_end0
      exact ⟨rfl, ho, hb, hgr⟩
end Go.Proofs.YtcocfnjbgceidaaDoor
