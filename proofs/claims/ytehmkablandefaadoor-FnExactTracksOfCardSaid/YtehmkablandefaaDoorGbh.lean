import Derived.Ground.SlsfProg
import Derived.Shelf.SlSortCmp.NoneTotal
import Derived.Test.YtehmkablandefaaDoorGaa
import Derived.Test.YtehmkablandefaaDoorGbc
import Derived.Sort.Grow
import Derived.Test.YtehmkablandefaaDoorGbg
import Derived.Test.YtehmkablandefaaDoorGbb
import Derived.Maps.AppendAt
namespace Go.Proofs.YtehmkablandefaaDoor
open Go.RowKit Go.Shelf
/-- the sort's facts at this program, for the contract of whatever element type -/
def sortRen : Go.Shelf.Ren := ⟨fun | 14 => 72 | 15 => 73 | 20 => 85 | 21 => 86 | 22 => 87 | 23 => 88 | 24 => 89 | 25 => 90 | 26 => 91 | 27 => 92 | 28 => 93 | 29 => 94 | 46 => 100 | 47 => 101 | 48 => 102 | 49 => 103 | 50 => 104 | 57 => 105 | n => n, fun | 0 => 0 | 1 => 1 | 2 => 2 | 3 => 3 | 4 => 4 | 5 => 5 | 6 => 6 | 7 => 7 | 8 => 8 | 9 => 9 | 10 => 10 | 11 => 11 | 12 => 12 | 13 => 13 | 14 => 14 | 15 => 15 | 16 => 16 | 17 => 17 | 18 => 18 | 19 => 19 | 20 => 20 | 21 => 21 | 22 => 29 | 24 => 71 | 25 => 101 | 27 => 166 | 37 => 131 | 38 => 132 | 39 => 128 | 40 => 139 | 44 => 156 | 45 => 157 | 46 => 158 | 47 => 159 | 48 => 160 | 49 => 161 | 50 => 162 | 51 => 163 | 52 => 122 | 53 => 26 | 54 => 164 | 55 => 165 | 66 => 171 | 67 => 172 | 68 => 173 | 69 => 174 | 70 => 175 | 71 => 176 | 76 => 177 | 77 => 178 | 78 => 179 | 81 => 181 | 82 => 182 | 83 => 183 | 84 => 184 | 85 => 185 | 86 => 186 | 87 => 187 | 88 => 188 | 89 => 189 | 90 => 190 | 91 => 191 | 92 => 192 | 93 => 193 | 94 => 194 | 95 => 195 | 96 => 207 | n => n, fun | n => n⟩
theorem sortLays : Go.Proofs.SlLaysF0.n14 Tryd.prog sortRen := {
  mixed := by kernel_rfl
  f14 := ⟨Tryd.f72.name, by decide, Tryd.func72.trans (congrArg some (by kernel_rfl))⟩
  f15 := Tryd.func73.trans (congrArg some (by kernel_rfl))
  f20 := ⟨Tryd.f85.name, by decide, Tryd.func85.trans (congrArg some (by kernel_rfl))⟩
  f21 := ⟨Tryd.f86.name, by decide, Tryd.func86.trans (congrArg some (by kernel_rfl))⟩
  f22 := ⟨Tryd.f87.name, by decide, Tryd.func87.trans (congrArg some (by kernel_rfl))⟩
  f23 := ⟨Tryd.f88.name, by decide, Tryd.func88.trans (congrArg some (by kernel_rfl))⟩
  f24 := ⟨Tryd.f89.name, by decide, Tryd.func89.trans (congrArg some (by kernel_rfl))⟩
  f25 := ⟨Tryd.f90.name, by decide, Tryd.func90.trans (congrArg some (by kernel_rfl))⟩
  f26 := ⟨Tryd.f91.name, by decide, Tryd.func91.trans (congrArg some (by kernel_rfl))⟩
  f27 := ⟨Tryd.f92.name, by decide, Tryd.func92.trans (congrArg some (by kernel_rfl))⟩
  f28 := Tryd.func93.trans (congrArg some (by kernel_rfl))
  f29 := Tryd.func94.trans (congrArg some (by kernel_rfl))
  f46 := ⟨Tryd.f100.name, by decide, Tryd.func100.trans (congrArg some (by kernel_rfl))⟩
  f47 := Tryd.func101.trans (congrArg some (by kernel_rfl))
  f48 := Tryd.func102.trans (congrArg some (by kernel_rfl))
  f49 := ⟨Tryd.f103.name, by decide, Tryd.func103.trans (congrArg some (by kernel_rfl))⟩
  f50 := ⟨Tryd.f104.name, by decide, Tryd.func104.trans (congrArg some (by kernel_rfl))⟩
  f57 := ⟨Tryd.f105.name, by decide, Tryd.func105.trans (congrArg some (by kernel_rfl))⟩
  t0 := Tryd.underlying0
  a0 := Tryd.isAgg0
  z0 := Tryd.sizeOf0
  v0 := Tryd.zeroValue0
  t3 := Tryd.underlying3
  a3 := Tryd.isAgg3
  z3 := Tryd.sizeOf3
  v3 := Tryd.zeroValue3
  t4 := Tryd.underlying4
  a4 := Tryd.isAgg4
  z4 := Tryd.sizeOf4
  v4 := Tryd.zeroValue4
  t5 := Tryd.underlying5
  a5 := Tryd.isAgg5
  z5 := Tryd.sizeOf5
  v5 := Tryd.zeroValue5
  t9 := Tryd.underlying9
  a9 := Tryd.isAgg9
  z9 := Tryd.sizeOf9
  v9 := Tryd.zeroValue9
  t22 := Tryd.underlying29
  a22 := Tryd.isAgg29
  z22 := Tryd.sizeOf29
  v22 := Tryd.zeroValue29
  t25 := Tryd.underlying101
  a25 := Tryd.isAgg101
  z25 := Tryd.sizeOf101
  v25 := Tryd.zeroValue101
  t39 := Tryd.underlying128
  a39 := Tryd.isAgg128
  z39 := Tryd.sizeOf128
  v39 := Tryd.zeroValue128
  t45 := Tryd.underlying157
  a45 := Tryd.isAgg157
  z45 := Tryd.sizeOf157
  v45 := Tryd.zeroValue157
  t46 := Tryd.underlying158
  a46 := Tryd.isAgg158
  z46 := Tryd.sizeOf158
  v46 := Tryd.zeroValue158
  t50 := Tryd.underlying162
  a50 := Tryd.isAgg162
  z50 := Tryd.sizeOf162
  v50 := Tryd.zeroValue162
  t53 := Tryd.underlying26
  a53 := Tryd.isAgg26
  z53 := Tryd.sizeOf26
  v53 := Tryd.zeroValue26
  t55 := Tryd.underlying165
  a55 := Tryd.isAgg165
  z55 := Tryd.sizeOf165
  v55 := Tryd.zeroValue165
  t66 := Tryd.underlying171
  a66 := Tryd.isAgg171
  z66 := Tryd.sizeOf171
  v66 := Tryd.zeroValue171
  t70 := Tryd.underlying175
  a70 := Tryd.isAgg175
  z70 := Tryd.sizeOf175
  v70 := Tryd.zeroValue175
  t76 := Tryd.underlying177
  a76 := Tryd.isAgg177
  z76 := Tryd.sizeOf177
  v76 := Tryd.zeroValue177
  t77 := Tryd.underlying178
  a77 := Tryd.isAgg178
  z77 := Tryd.sizeOf178
  v77 := Tryd.zeroValue178 }
end Go.Proofs.YtehmkablandefaaDoor
namespace Go.Proofs.YtehmkablandefaaDoor
open Go.RowKit
set_option maxHeartbeats 1000000 in
theorem compareNotes_grow (a p b q : Int) (w : World) :
    Calls Tryd.prog 52 #[.agg #[.int .i16 a, .int .i8 p], .agg #[.int .i16 b, .int .i8 q]] w fun e w' => e = .returned (.int .i64 (ordI a p b q)) ∧ ∃ (q : Nat) (os : Array Obj), w' = Go.Sort.grow (w.drewN q) os := by
  go_enter Tryd.func52, Tryd.ntmps52
  go_wp2_with fail
  have k1 : ((w.alloc (.cells #[.int .i16 a, .int .i8 p] 71)).alloc (.cells #[.int .i16 b, .int .i8 q] 71)).cell? ⟨w.heap.size, 0, none⟩ = some (.int .i16 a) := by simp [go_sem, World.cell?_alloc_past]
  have k2 : ((w.alloc (.cells #[.int .i16 a, .int .i8 p] 71)).alloc (.cells #[.int .i16 b, .int .i8 q] 71)).cell? ⟨w.heap.size, 1, none⟩ = some (.int .i8 p) := by simp [go_sem, World.cell?_alloc_past]
  have k3 : ((w.alloc (.cells #[.int .i16 a, .int .i8 p] 71)).alloc (.cells #[.int .i16 b, .int .i8 q] 71)).cell? ⟨w.heap.size + 1, 0, none⟩ = some (.int .i16 b) := by simp [go_sem]
  have k4 : ((w.alloc (.cells #[.int .i16 a, .int .i8 p] 71)).alloc (.cells #[.int .i16 b, .int .i8 q] 71)).cell? ⟨w.heap.size + 1, 1, none⟩ = some (.int .i8 q) := by simp [go_sem]
  have k5 : Below w.heap.size w ((w.alloc (.cells #[.int .i16 a, .int .i8 p] 71)).alloc (.cells #[.int .i16 b, .int .i8 q] 71)) := ((Below.refl _ _).alloc (Nat.le_refl _) _).alloc (by simp) _
  obtain ⟨W, hW⟩ : ∃ W, W = ((w.alloc (.cells #[.int .i16 a, .int .i8 p] 71)).alloc (.cells #[.int .i16 b, .int .i8 q] 71)) := ⟨_, rfl⟩
  rw [← hW] at k1 k2 k3 k4 k5 ⊢
  have HW := hide hW
  clear hW
  go_region_held3 (fun w' => w'.cell? ⟨w.heap.size, 0, none⟩ = some (.int .i16 a) ∧ w'.cell? ⟨w.heap.size, 1, none⟩ = some (.int .i8 p) ∧ w'.cell? ⟨w.heap.size + 1, 0, none⟩ = some (.int .i16 b) ∧ w'.cell? ⟨w.heap.size + 1, 1, none⟩ = some (.int .i8 q) ∧ Below w.heap.size w w')
    (first | exact ⟨k1, k2, k3, k4, k5.drew⟩ | (go_split_ands; refine ⟨?_, ?_, ?_, ?_, ?_⟩ <;> first | assumption | simp [*, World.cell?_alloc_some] | exact Below.alloc (by assumption) (Below.size (by assumption)) _))
    (first | (go_at_call 75; refine (cmp16_any _ _ _).mono ?_; rintro e w2 ⟨rfl, rfl⟩) | (go_at_call 76; refine (cmp8_any _ _ _).mono ?_; rintro e w2 ⟨rfl, rfl⟩) | (go_at_call 74; refine (cmpOr_any _ (cmpI a b) (cmpI p q) _ ?_ ?_).mono ?_; (simp [go_sem]); (simp [go_sem]); rintro e w2 ⟨rfl, rfl⟩))
  go_wp2
  go_ret
  exact ⟨rfl, 1, #[_, _, _], by rw [HW.out, Go.Sort.alloc_eq_grow, Go.Sort.alloc_eq_grow, Go.Sort.alloc_eq_grow, Go.Sort.grow_grow, Go.Sort.grow_grow]; rfl⟩
end Go.Proofs.YtehmkablandefaaDoor
namespace Go.Proofs.YtehmkablandefaaDoor
open Go.RowKit Go.Shelf Go.Lib
open Go.Sort (SWO HoldsK PermIn SortedIn pdq pdq_sorts sorted_unique_holds)
theorem cmpLaysN (g n : Nat) (w : World) : CmpLays Tryd.prog 52 #[] encN 2 cfN g 0 n w :=
  fun _ _ _ _ x y => compareNotes_grow x.1 x.2 y.1 y.2 _
/-- what slices.SortFunc leaves of notes -/
def SortedP (base : Nat) (C : Option Addr) (q : Nat) (l : List (Int × Int)) (w : World) (e : Ending) (w' : World) : Prop :=
  e = .returned (.tuple #[]) ∧ w'.ownsRow base 71 2 (.slice C l.length q) l.length (cellsOf (srtN l)) ∧ Below base w w'
set_option maxHeartbeats 2000000 in
set_option maxRecDepth 100000 in
theorem sortFunc_any (C : Option Addr) (q : Nat) (l : List (Int × Int)) (base : Nat) (w : World) (h : w.ownsRow base 71 2 (.slice C l.length q) l.length (cellsOf l)) (hn : l.length ≤ 1048576) (hbase : base ≤ w.heap.size) :
    Calls Tryd.prog 51 #[.slice C l.length q, .func (.func 52) #[] #[]] w (SortedP base C q l w) := by
  by_cases h0 : l = []
  · subst h0
    have hp : ∀ lim W, Calls Tryd.prog 72 #[.slice C 0 q, .int .i64 0, .int .i64 0, .int .i64 lim, .func (.func 52) #[] #[]] W fun e w' => e = .returned (.tuple #[]) ∧ w' = W := fun lim W => AnyF.pdqsortCmpFunc_none (P := Tryd.prog) (ρ := sortRen) sortLays C q lim (.func (.func 52) #[] #[]) W
    have hl : ∀ W, Calls Tryd.prog 73 #[.int .u64 0] W fun e w' => e = .returned (.int .i64 (Lib.bitLen 0 : Nat)) ∧ w' = W := fun W => Any.bits_Len (SlLaysF0.n15.bits (P := Tryd.prog) (ρ := sortRen) { sortLays with }) 0 W (by omega) (by omega)
    have HO := hide h
    clear h
    go_enter Tryd.func51, Tryd.ntmps51
    go_wp2_with (first | (go_at_call 73; refine (hl _).mono ?_; rintro e w' ⟨rfl, rfl⟩) | (go_at_call 72; refine (hp _ _).mono ?_; rintro e w' ⟨rfl, rfl⟩))
    go_end0
    exact ⟨rfl, by rw [srtN_id [] List.Pairwise.nil]; exact HO.out, Below.refl _ _⟩
  · have hpos : 0 < l.length := by
      rcases Nat.eq_zero_or_pos l.length with e | e
      · exact absurd (List.eq_nil_of_length_eq_zero e) h0
      · exact e
    rcases h.2 with ⟨h', e0⟩ | ⟨g, cap, cur, h', hgb, hg, _⟩
    · omega
    · simp only [Value.slice.injEq, true_and] at h'
      obtain ⟨rfl, rfl⟩ := h'
      have hblk : g < w.heap.size := (Array.getElem?_eq_some_iff.1 hg).1
      have hsz : l.toArray.size = l.length := by simp
      have eg : ∀ args w, (callFunc 52 args).run Tryd.prog w = .ok (.enter 52 args) w := enters_of Tryd.func52 (by kernel_rfl) rfl
      have aE : ∀ w, (isAgg 71).run Tryd.prog w = .ok true w := Tryd.isAgg71
      have zE : ∀ w, (Go.sizeOf 71).run Tryd.prog w = .ok 2 w := Tryd.sizeOf71
      have hH := holds_own h
      have hp := AnyQ.pdqsortCmpFunc_all (P := Tryd.prog) (ρ := sortRen) sortLays 2 aE zE encN cfN 52 #[] cfN_swo g 0 q l.toArray w eg (cmpLaysN g _ w) ⟨encN_len, encN_one, hH, hblk⟩ (l.toArray.size + 1) 0 l.toArray.size (Lib.bitLen l.toArray.size) l.toArray w (by omega) rfl (SWK.start hH) (Nat.zero_le _) (Nat.le_refl _) (by rw [hsz]; omega) (Nat.lt_of_le_of_lt (Lib.bitLen_le l.toArray.size 62 (by omega) (by rw [hsz]; omega)) (by omega)) (Or.inl rfl)
      have hl : Calls Tryd.prog 73 #[.int .u64 (l.toArray.size : Int)] w fun e w' => e = .returned (.int .i64 (Lib.bitLen l.toArray.size : Nat)) ∧ w' = w := by
        have h := Any.bits_Len (SlLaysF0.n15.bits (P := Tryd.prog) (ρ := sortRen) { sortLays with }) (l.toArray.size : Int) w (by omega) (by rw [hsz]; omega)
        rwa [Int.toNat_natCast] at h
      have hs := pdq_sorts (ltOf cfN) cfN_swo l.toArray 0 l.toArray.size (Lib.bitLen l.toArray.size) true true (Nat.zero_le _) (Nat.le_refl _) (Or.inl rfl)
      have hu := sorted_unique_holds cfN_swo cfN_tot l.toArray _ hs.1 hs.2
      have hD : (pdq (ltOf cfN) l.toArray 0 l.toArray.size (Lib.bitLen l.toArray.size) true true) = (srtN l).toArray := by
        rw [← srtN_cf]
        exact Array.ext' (by rw [hu])
      rw [hD] at hp
      rw [hsz] at hp hl
      have hp' : Calls Tryd.prog 72 #[.slice (some ⟨g, 0, none⟩) l.length q, .int .i64 0, .int .i64 l.length, .int .i64 (Lib.bitLen l.length : Nat), .func (.func 52) #[] #[]] w fun e w' => e = .returned (.tuple #[]) ∧ w'.ownsRow base 71 2 (.slice (some ⟨g, 0, none⟩) l.length q) l.length (cellsOf (srtN l)) ∧ Below base w w' := by
        refine Calls.mono hp fun e w' ⟨he, m, os, hw⟩ => ⟨he, ?_, ?_⟩
        · rw [hw]
          exact sorted_own h (srtN_len l)
        · rw [hw]
          exact sorted_below hgb hbase
      have wr : IntKind.u64.wrap (l.length : Int) = l.length := by simp [IntKind.wrap, IntKind.bits, IntKind.signed]; omega
      clear hp hs hu hH h hg eg aE zE hsz h0
      obtain ⟨bl, hbl⟩ : ∃ bl : Nat, bl = Lib.bitLen l.length := ⟨_, rfl⟩
      rw [← hbl] at hp' hl
      clear hbl
      go_enter Tryd.func51, Tryd.ntmps51
      go_wp2_with (first | (go_at_call 73; refine hl.mono ?_; rintro e w' ⟨rfl, rfl⟩) | (go_at_call 72; refine hp'.mono ?_; rintro e w' ⟨rfl, ho, hb⟩))
      go_end0
      exact ⟨rfl, ho, hb⟩
end Go.Proofs.YtehmkablandefaaDoor
namespace Go.Proofs.YtehmkablandefaaDoor
open Go.RowKit
theorem cell_two_new' (w : World) (x y : Value) (t : TypeId) : ∀ j u, ([x, y] : List Value)[j]? = some u → (w.alloc (.cells #[x, y] t)).cell? ((⟨w.heap.size, 0, none⟩ : Addr).add j) = some u := by
  intro j u hu
  rw [Addr.add_lit]
  match j, hu with
  | 0, hu => simp at hu; subst hu; simp [go_sem]
  | 1, hu => simp at hu; subst hu; simp [go_sem]
theorem own_emptyT {w : World} {base : Nat} (t : TypeId) (size : Nat) (h : base ≤ w.heap.size) : (w.alloc (.cells #[] t)).ownsRow base t size (.slice (some ⟨w.heap.size, 0, none⟩) 0 0) 0 [] :=
  ⟨by simp, Or.inr ⟨w.heap.size, 0, #[], rfl, h, heap_alloc_new _ _, by simp, by simp, by simp, by simp⟩⟩
/-- notes of the call's own, and a code -/
def OwnN (w : World) (l : List (Int × Int)) (cc : Int) (e : Ending) (w' : World) : Prop := ∃ (C : Option Addr) (q : Nat), e = .returned (.tuple #[.slice C l.length q, .int .i64 cc]) ∧ w'.ownsRow w.heap.size 71 2 (.slice C l.length q) l.length (cellsOf l) ∧ Below w.heap.size w w'
end Go.Proofs.YtehmkablandefaaDoor
