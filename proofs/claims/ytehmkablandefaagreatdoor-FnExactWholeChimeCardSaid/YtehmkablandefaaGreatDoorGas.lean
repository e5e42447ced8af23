import Derived.Shelf.SlSortCmp.NoneTotal
import Derived.Test.YtehmkablandefaaGreatDoorGar
import Derived.Ground.SlsfProg
import Derived.Test.YtehmkablandefaaGreatDoorGaa
import Derived.Sort.Grow
namespace Go.Proofs.YtehmkablandefaaGreatDoor
open Go.RowKit Go.Sort
/-- a note's two cells -/
def encN (x : Int × Int) : List Value := [.int .i16 x.1, .int .i8 x.2]
theorem encN_len (x : Int × Int) : (encN x).length = 2 := rfl
theorem encN_one (x : Int × Int) : ∀ v ∈ encN x, v.oneCell' = true := fun v hv => by simp [encN] at hv; rcases hv with rfl | rfl <;> rfl
theorem toArray_get! (l : List (Int × Int)) (k : Nat) (h : k < l.length) : l.toArray[k]! = (nAt l k, nPi l k) := by
  rw [getElem!_def]
  simp only [List.getElem?_toArray, List.getElem?_eq_getElem h]
  simp [nAt, nPi, List.getD, h]
theorem flatN_get (l : List (Int × Int)) (j : Nat) (h : j < l.length * 2) : (cellsOf l)[j]? = some ((flatK encN 2 l.toArray)[j]!) := by
  rw [get_flatK _ _ _ _ (by simpa using h)]
  rcases Nat.mod_two_eq_zero_or_one j with e | e
  · obtain ⟨k, rfl⟩ : ∃ k, j = k * 2 := ⟨j / 2, by omega⟩
    rw [cellsOf_even l k (by omega), show k * 2 / 2 = k by omega, toArray_get! l k (by omega), show k * 2 % 2 = 0 by omega]
    rfl
  · obtain ⟨k, rfl⟩ : ∃ k, j = k * 2 + 1 := ⟨j / 2, by omega⟩
    rw [cellsOf_odd l k (by omega), show (k * 2 + 1) / 2 = k by omega, toArray_get! l k (by omega), show (k * 2 + 1) % 2 = 1 by omega]
    rfl
theorem holds_own {w : World} {base g : Nat} {t : TypeId} {q : Nat} {l : List (Int × Int)} (h : w.ownsRow base t 2 (.slice (some ⟨g, 0, none⟩) l.length q) l.length (cellsOf l)) : HoldsK encN 2 w g 0 l.toArray := by
  intro j hj
  have hj' : j < l.length * 2 := by simpa using hj
  rw [Nat.zero_add]
  exact ⟨(h.cellAt j hj').trans (flatN_get l j hj'), h.frozenAt j⟩
theorem put_take (l : List (Int × Int)) (cur : Array Value) (hc : l.length * 2 ≤ cur.size) : (putCells id 0 (flatK encN 2 l.toArray) cur).toList.take (l.length * 2) = cellsOf l := by
  apply List.ext_getElem?
  intro j
  rw [List.getElem?_take]
  by_cases hj : j < l.length * 2
  · rw [if_pos hj, flatN_get l j hj, Array.getElem?_toList]
    simp only [putCells, Array.getElem?_mapIdx]
    rw [Array.getElem?_eq_getElem (by omega), Option.map_some, if_pos ⟨Nat.zero_le _, by simpa using hj⟩]
    rfl
  · rw [if_neg hj, List.getElem?_eq_none (by rw [cellsOf_length]; omega)]
theorem sorted_own {w : World} {base g m q : Nat} {t : TypeId} {l l' : List (Int × Int)} {os : Array Obj} (h : w.ownsRow base t 2 (.slice (some ⟨g, 0, none⟩) l.length q) l.length (cellsOf l)) (hl : l'.length = l.length) :
    (sortWorldK encN 2 w g 0 m l'.toArray os).ownsRow base t 2 (.slice (some ⟨g, 0, none⟩) l.length q) l.length (cellsOf l') := by
  refine ⟨by rw [cellsOf_length, hl], ?_⟩
  rcases h.2 with ⟨h', _⟩ | ⟨g', cap, cur, h', hb, hg, hn, hm, hs, ht⟩
  · simp at h'
  · simp only [Value.slice.injEq, Option.some.injEq, Addr.mk.injEq, and_true, true_and] at h'
    obtain ⟨rfl, rfl⟩ := h'
    have hlt : g < w.heap.size := (Array.getElem?_eq_some_iff.1 hg).1
    refine Or.inr ⟨g, q, putCells id 0 (flatK encN 2 l'.toArray) cur, rfl, hb, ?_, hn, hm, by simp [putCells, hs], ?_⟩
    · unfold sortWorldK grow putRowK
      rw [Array.getElem?_append_left (by simp [putRow, mapBlock]; exact hlt)]
      simp only [putRow, mapBlock, heap_ahead, Array.getElem?_modify, if_true, hg, Option.map_some, onCells]
    · rw [← hl]
      exact put_take l' cur (by rw [hs, hl]; exact Nat.mul_le_mul_right 2 hn)
theorem sorted_below {w : World} {base g m : Nat} {l' : List (Int × Int)} {os : Array Obj} (hg : base ≤ g) (hb : base ≤ w.heap.size) : Below base w (sortWorldK encN 2 w g 0 m l'.toArray os) := by
  unfold sortWorldK grow putRowK
  refine ⟨rfl, rfl, rfl, by simp [putRow, mapBlock], fun k hk => ?_⟩
  rw [Array.getElem?_append_left (by simp [putRow, mapBlock]; omega)]
  simp only [putRow, mapBlock, heap_ahead, Array.getElem?_modify]
  rw [if_neg (by omega)]
/-- a note before another one, as compareNotes tells it -/
def cfN (x y : Int × Int) : Int := ordI x.1 x.2 y.1 y.2
theorem cfN_lt (x y : Int × Int) : ltOf cfN x y = befB x.1 x.2 y.1 y.2 := by
  rw [Bool.eq_iff_iff]
  simp only [ltOf, decide_eq_true_eq, cfN]
  rw [← ordI_neg]
  exact decide_eq_true_iff
theorem cfN_swo : SWO (ltOf cfN) where
  irrefl x := by rw [cfN_lt]; simp [befB]
  trans x y z h1 h2 := by rw [cfN_lt] at *; simp [befB] at *; omega
  ntrans x y z h1 h2 := by rw [cfN_lt] at *; simp [befB] at *; omega
theorem cfN_tot (x y : Int × Int) (h1 : (ltOf cfN) x y = false) (h2 : (ltOf cfN) y x = false) : x = y := by
  rw [cfN_lt] at *
  simp [befB] at h1 h2
  exact Prod.ext (by omega) (by omega)
theorem srtN_cf (l : List (Int × Int)) : (l.mergeSort fun x y => !(ltOf cfN) y x) = srtN l := by
  unfold srtN
  congr 1
  funext x y
  rw [cfN_lt]
end Go.Proofs.YtehmkablandefaaGreatDoor
namespace Go.Proofs.YtehmkablandefaaGreatDoor
open Go.RowKit Go.Shelf
/-- the sort's facts at this program, for the contract of whatever element type -/
def sortRen : Go.Shelf.Ren := ⟨fun | 14 => 94 | 15 => 95 | 20 => 103 | 21 => 104 | 22 => 105 | 23 => 106 | 24 => 107 | 25 => 108 | 26 => 109 | 27 => 110 | 28 => 111 | 29 => 112 | 46 => 115 | 47 => 116 | 48 => 117 | 49 => 118 | 50 => 119 | 57 => 120 | n => n, fun | 0 => 0 | 1 => 1 | 2 => 2 | 3 => 3 | 4 => 4 | 5 => 5 | 6 => 6 | 7 => 7 | 8 => 8 | 9 => 9 | 10 => 10 | 11 => 11 | 12 => 12 | 13 => 13 | 14 => 14 | 15 => 15 | 16 => 16 | 17 => 17 | 18 => 18 | 19 => 19 | 20 => 20 | 21 => 21 | 22 => 35 | 24 => 83 | 25 => 134 | 27 => 172 | 37 => 150 | 38 => 151 | 39 => 125 | 40 => 122 | 44 => 162 | 45 => 163 | 46 => 164 | 47 => 165 | 48 => 166 | 49 => 167 | 50 => 168 | 51 => 169 | 52 => 155 | 53 => 26 | 54 => 170 | 55 => 171 | 66 => 176 | 67 => 177 | 68 => 178 | 69 => 179 | 70 => 180 | 71 => 181 | 76 => 182 | 77 => 183 | 78 => 184 | 81 => 185 | 82 => 186 | 83 => 187 | 84 => 188 | 85 => 189 | 86 => 190 | 87 => 191 | 88 => 192 | 89 => 193 | 90 => 194 | 91 => 195 | 92 => 196 | 93 => 197 | 94 => 198 | 95 => 199 | 96 => 201 | n => n, fun | n => n⟩
theorem sortLays : Go.Proofs.SlLaysF0.n14 Tryz.prog sortRen := {
  mixed := by kernel_rfl
  f14 := ⟨Tryz.f94.name, by decide, Tryz.func94.trans (congrArg some (by kernel_rfl))⟩
  f15 := Tryz.func95.trans (congrArg some (by kernel_rfl))
  f20 := ⟨Tryz.f103.name, by decide, Tryz.func103.trans (congrArg some (by kernel_rfl))⟩
  f21 := ⟨Tryz.f104.name, by decide, Tryz.func104.trans (congrArg some (by kernel_rfl))⟩
  f22 := ⟨Tryz.f105.name, by decide, Tryz.func105.trans (congrArg some (by kernel_rfl))⟩
  f23 := ⟨Tryz.f106.name, by decide, Tryz.func106.trans (congrArg some (by kernel_rfl))⟩
  f24 := ⟨Tryz.f107.name, by decide, Tryz.func107.trans (congrArg some (by kernel_rfl))⟩
  f25 := ⟨Tryz.f108.name, by decide, Tryz.func108.trans (congrArg some (by kernel_rfl))⟩
  f26 := ⟨Tryz.f109.name, by decide, Tryz.func109.trans (congrArg some (by kernel_rfl))⟩
  f27 := ⟨Tryz.f110.name, by decide, Tryz.func110.trans (congrArg some (by kernel_rfl))⟩
  f28 := Tryz.func111.trans (congrArg some (by kernel_rfl))
  f29 := Tryz.func112.trans (congrArg some (by kernel_rfl))
  f46 := ⟨Tryz.f115.name, by decide, Tryz.func115.trans (congrArg some (by kernel_rfl))⟩
  f47 := Tryz.func116.trans (congrArg some (by kernel_rfl))
  f48 := Tryz.func117.trans (congrArg some (by kernel_rfl))
  f49 := ⟨Tryz.f118.name, by decide, Tryz.func118.trans (congrArg some (by kernel_rfl))⟩
  f50 := ⟨Tryz.f119.name, by decide, Tryz.func119.trans (congrArg some (by kernel_rfl))⟩
  f57 := ⟨Tryz.f120.name, by decide, Tryz.func120.trans (congrArg some (by kernel_rfl))⟩
  t0 := Tryz.underlying0
  a0 := Tryz.isAgg0
  z0 := Tryz.sizeOf0
  v0 := Tryz.zeroValue0
  t3 := Tryz.underlying3
  a3 := Tryz.isAgg3
  z3 := Tryz.sizeOf3
  v3 := Tryz.zeroValue3
  t4 := Tryz.underlying4
  a4 := Tryz.isAgg4
  z4 := Tryz.sizeOf4
  v4 := Tryz.zeroValue4
  t5 := Tryz.underlying5
  a5 := Tryz.isAgg5
  z5 := Tryz.sizeOf5
  v5 := Tryz.zeroValue5
  t9 := Tryz.underlying9
  a9 := Tryz.isAgg9
  z9 := Tryz.sizeOf9
  v9 := Tryz.zeroValue9
  t22 := Tryz.underlying35
  a22 := Tryz.isAgg35
  z22 := Tryz.sizeOf35
  v22 := Tryz.zeroValue35
  t25 := Tryz.underlying134
  a25 := Tryz.isAgg134
  z25 := Tryz.sizeOf134
  v25 := Tryz.zeroValue134
  t39 := Tryz.underlying125
  a39 := Tryz.isAgg125
  z39 := Tryz.sizeOf125
  v39 := Tryz.zeroValue125
  t45 := Tryz.underlying163
  a45 := Tryz.isAgg163
  z45 := Tryz.sizeOf163
  v45 := Tryz.zeroValue163
  t46 := Tryz.underlying164
  a46 := Tryz.isAgg164
  z46 := Tryz.sizeOf164
  v46 := Tryz.zeroValue164
  t50 := Tryz.underlying168
  a50 := Tryz.isAgg168
  z50 := Tryz.sizeOf168
  v50 := Tryz.zeroValue168
  t53 := Tryz.underlying26
  a53 := Tryz.isAgg26
  z53 := Tryz.sizeOf26
  v53 := Tryz.zeroValue26
  t55 := Tryz.underlying171
  a55 := Tryz.isAgg171
  z55 := Tryz.sizeOf171
  v55 := Tryz.zeroValue171
  t66 := Tryz.underlying176
  a66 := Tryz.isAgg176
  z66 := Tryz.sizeOf176
  v66 := Tryz.zeroValue176
  t70 := Tryz.underlying180
  a70 := Tryz.isAgg180
  z70 := Tryz.sizeOf180
  v70 := Tryz.zeroValue180
  t76 := Tryz.underlying182
  a76 := Tryz.isAgg182
  z76 := Tryz.sizeOf182
  v76 := Tryz.zeroValue182
  t77 := Tryz.underlying183
  a77 := Tryz.isAgg183
  z77 := Tryz.sizeOf183
  v77 := Tryz.zeroValue183 }
end Go.Proofs.YtehmkablandefaaGreatDoor
namespace Go.Proofs.YtehmkablandefaaGreatDoor
open Go.RowKit
set_option maxHeartbeats 1000000 in
theorem compareNotes_grow (a p b q : Int) (w : World) :
    Calls Tryz.prog 84 #[.agg #[.int .i16 a, .int .i8 p], .agg #[.int .i16 b, .int .i8 q]] w fun e w' => e = .returned (.int .i64 (ordI a p b q)) ∧ ∃ (q : Nat) (os : Array Obj), w' = Go.Sort.grow (w.drewN q) os := by
  go_enter Tryz.func84, Tryz.ntmps84
  go_wp2_with fail
  have k1 : ((w.alloc (.cells #[.int .i16 a, .int .i8 p] 83)).alloc (.cells #[.int .i16 b, .int .i8 q] 83)).cell? ⟨w.heap.size, 0, none⟩ = some (.int .i16 a) := by simp [go_sem, World.cell?_alloc_past]
  have k2 : ((w.alloc (.cells #[.int .i16 a, .int .i8 p] 83)).alloc (.cells #[.int .i16 b, .int .i8 q] 83)).cell? ⟨w.heap.size, 1, none⟩ = some (.int .i8 p) := by simp [go_sem, World.cell?_alloc_past]
  have k3 : ((w.alloc (.cells #[.int .i16 a, .int .i8 p] 83)).alloc (.cells #[.int .i16 b, .int .i8 q] 83)).cell? ⟨w.heap.size + 1, 0, none⟩ = some (.int .i16 b) := by simp [go_sem]
  have k4 : ((w.alloc (.cells #[.int .i16 a, .int .i8 p] 83)).alloc (.cells #[.int .i16 b, .int .i8 q] 83)).cell? ⟨w.heap.size + 1, 1, none⟩ = some (.int .i8 q) := by simp [go_sem]
  have k5 : Below w.heap.size w ((w.alloc (.cells #[.int .i16 a, .int .i8 p] 83)).alloc (.cells #[.int .i16 b, .int .i8 q] 83)) := ((Below.refl _ _).alloc (Nat.le_refl _) _).alloc (by simp) _
  obtain ⟨W, hW⟩ : ∃ W, W = ((w.alloc (.cells #[.int .i16 a, .int .i8 p] 83)).alloc (.cells #[.int .i16 b, .int .i8 q] 83)) := ⟨_, rfl⟩
  rw [← hW] at k1 k2 k3 k4 k5 ⊢
  have HW := hide hW
  clear hW
  go_region_held3 (fun w' => w'.cell? ⟨w.heap.size, 0, none⟩ = some (.int .i16 a) ∧ w'.cell? ⟨w.heap.size, 1, none⟩ = some (.int .i8 p) ∧ w'.cell? ⟨w.heap.size + 1, 0, none⟩ = some (.int .i16 b) ∧ w'.cell? ⟨w.heap.size + 1, 1, none⟩ = some (.int .i8 q) ∧ Below w.heap.size w w')
    (first | exact ⟨k1, k2, k3, k4, k5.drew⟩ | (go_split_ands; refine ⟨?_, ?_, ?_, ?_, ?_⟩ <;> first | assumption | simp [*, World.cell?_alloc_some] | exact Below.alloc (by assumption) (Below.size (by assumption)) _))
    (first | (go_at_call 97; refine (cmp16_any _ _ _).mono ?_; rintro e w2 ⟨rfl, rfl⟩) | (go_at_call 98; refine (cmp8_any _ _ _).mono ?_; rintro e w2 ⟨rfl, rfl⟩) | (go_at_call 96; refine (cmpOr_any _ (cmpI a b) (cmpI p q) _ ?_ ?_).mono ?_; (simp [go_sem]); (simp [go_sem]); rintro e w2 ⟨rfl, rfl⟩))
  go_wp2
  go_ret
  exact ⟨rfl, 1, #[_, _, _], by rw [HW.out, Go.Sort.alloc_eq_grow, Go.Sort.alloc_eq_grow, Go.Sort.alloc_eq_grow, Go.Sort.grow_grow, Go.Sort.grow_grow]; rfl⟩
end Go.Proofs.YtehmkablandefaaGreatDoor
namespace Go.Proofs.YtehmkablandefaaGreatDoor
open Go.RowKit Go.Shelf Go.Lib
open Go.Sort (SWO HoldsK PermIn SortedIn pdq pdq_sorts sorted_unique_holds)
theorem cmpLaysN (g n : Nat) (w : World) : CmpLays Tryz.prog 84 #[] encN 2 cfN g 0 n w :=
  fun _ _ _ _ x y => compareNotes_grow x.1 x.2 y.1 y.2 _
/-- what slices.SortFunc leaves of notes -/
def SortedP (base : Nat) (C : Option Addr) (q : Nat) (l : List (Int × Int)) (w : World) (e : Ending) (w' : World) : Prop :=
  e = .returned (.tuple #[]) ∧ w'.ownsRow base 83 2 (.slice C l.length q) l.length (cellsOf (srtN l)) ∧ Below base w w'
set_option maxHeartbeats 2000000 in
set_option maxRecDepth 100000 in
theorem sortFunc_any (C : Option Addr) (q : Nat) (l : List (Int × Int)) (base : Nat) (w : World) (h : w.ownsRow base 83 2 (.slice C l.length q) l.length (cellsOf l)) (hn : l.length ≤ 1048576) (hbase : base ≤ w.heap.size) :
    Calls Tryz.prog 83 #[.slice C l.length q, .func (.func 84) #[] #[]] w (SortedP base C q l w) := by
  by_cases h0 : l = []
  · subst h0
    have hp : ∀ lim W, Calls Tryz.prog 94 #[.slice C 0 q, .int .i64 0, .int .i64 0, .int .i64 lim, .func (.func 84) #[] #[]] W fun e w' => e = .returned (.tuple #[]) ∧ w' = W := fun lim W => AnyF.pdqsortCmpFunc_none (P := Tryz.prog) (ρ := sortRen) sortLays C q lim (.func (.func 84) #[] #[]) W
    have hl : ∀ W, Calls Tryz.prog 95 #[.int .u64 0] W fun e w' => e = .returned (.int .i64 (Lib.bitLen 0 : Nat)) ∧ w' = W := fun W => Any.bits_Len (SlLaysF0.n15.bits (P := Tryz.prog) (ρ := sortRen) { sortLays with }) 0 W (by omega) (by omega)
    have HO := hide h
    clear h
    go_enter Tryz.func83, Tryz.ntmps83
    go_wp2_with (first | (go_at_call 95; refine (hl _).mono ?_; rintro e w' ⟨rfl, rfl⟩) | (go_at_call 94; refine (hp _ _).mono ?_; rintro e w' ⟨rfl, rfl⟩))
    go_end0
    exact ⟨rfl, by rw [srtN_id [] List.Pairwise.nil]; exact HO.out, Below.refl _ _⟩
  · have hpos : 0 < l.length := by
      rcases Nat.eq_zero_or_pos l.length with e | e
      · exact absurd (List.eq_nil_of_length_eq_zero e) h0
      · exact e
    rcases h.2 with ⟨h', e0⟩ | ⟨g, cap, cur, h', hgb, hg, _⟩
    · omega
    · simp only [Value.slice.injEq, true_and] at h'
      obtain ⟨rfl, rfl⟩ := h'
      have hblk : g < w.heap.size := (Array.getElem?_eq_some_iff.1 hg).1
      have hsz : l.toArray.size = l.length := by simp
      have eg : ∀ args w, (callFunc 84 args).run Tryz.prog w = .ok (.enter 84 args) w := enters_of Tryz.func84 (by kernel_rfl) rfl
      have aE : ∀ w, (isAgg 83).run Tryz.prog w = .ok true w := Tryz.isAgg83
      have zE : ∀ w, (Go.sizeOf 83).run Tryz.prog w = .ok 2 w := Tryz.sizeOf83
      have hH := holds_own h
      have hp := AnyQ.pdqsortCmpFunc_all (P := Tryz.prog) (ρ := sortRen) sortLays 2 aE zE encN cfN 84 #[] cfN_swo g 0 q l.toArray w eg (cmpLaysN g _ w) ⟨encN_len, encN_one, hH, hblk⟩ (l.toArray.size + 1) 0 l.toArray.size (Lib.bitLen l.toArray.size) l.toArray w (by omega) rfl (SWK.start hH) (Nat.zero_le _) (Nat.le_refl _) (by rw [hsz]; omega) (Nat.lt_of_le_of_lt (Lib.bitLen_le l.toArray.size 62 (by omega) (by rw [hsz]; omega)) (by omega)) (Or.inl rfl)
      have hl : Calls Tryz.prog 95 #[.int .u64 (l.toArray.size : Int)] w fun e w' => e = .returned (.int .i64 (Lib.bitLen l.toArray.size : Nat)) ∧ w' = w := by
        have h := Any.bits_Len (SlLaysF0.n15.bits (P := Tryz.prog) (ρ := sortRen) { sortLays with }) (l.toArray.size : Int) w (by omega) (by rw [hsz]; omega)
        rwa [Int.toNat_natCast] at h
      have hs := pdq_sorts (ltOf cfN) cfN_swo l.toArray 0 l.toArray.size (Lib.bitLen l.toArray.size) true true (Nat.zero_le _) (Nat.le_refl _) (Or.inl rfl)
      have hu := sorted_unique_holds cfN_swo cfN_tot l.toArray _ hs.1 hs.2
      have hD : (pdq (ltOf cfN) l.toArray 0 l.toArray.size (Lib.bitLen l.toArray.size) true true) = (srtN l).toArray := by
        rw [← srtN_cf]
        exact Array.ext' (by rw [hu])
      rw [hD] at hp
      rw [hsz] at hp hl
      have hp' : Calls Tryz.prog 94 #[.slice (some ⟨g, 0, none⟩) l.length q, .int .i64 0, .int .i64 l.length, .int .i64 (Lib.bitLen l.length : Nat), .func (.func 84) #[] #[]] w fun e w' => e = .returned (.tuple #[]) ∧ w'.ownsRow base 83 2 (.slice (some ⟨g, 0, none⟩) l.length q) l.length (cellsOf (srtN l)) ∧ Below base w w' := by
        refine Calls.mono hp fun e w' ⟨he, m, os, hw⟩ => ⟨he, ?_, ?_⟩
        · rw [hw]
          exact sorted_own h (srtN_len l)
        · rw [hw]
          exact sorted_below hgb hbase
      have wr : IntKind.u64.wrap (l.length : Int) = l.length := by simp [IntKind.wrap, IntKind.bits, IntKind.signed]; omega
      clear hp hs hu hH h hg eg aE zE hsz h0
      obtain ⟨bl, hbl⟩ : ∃ bl : Nat, bl = Lib.bitLen l.length := ⟨_, rfl⟩
      rw [← hbl] at hp' hl
      clear hbl
      go_enter Tryz.func83, Tryz.ntmps83
      go_wp2_with (first | (go_at_call 95; refine hl.mono ?_; rintro e w' ⟨rfl, rfl⟩) | (go_at_call 94; refine hp'.mono ?_; rintro e w' ⟨rfl, ho, hb⟩))
      go_end0
      exact ⟨rfl, ho, hb⟩
end Go.Proofs.YtehmkablandefaaGreatDoor
