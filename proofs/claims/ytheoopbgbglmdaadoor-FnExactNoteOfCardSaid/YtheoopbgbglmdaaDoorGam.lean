import Derived.Test.YtheoopbgbglmdaaDoorGal
import Derived.Maps.AppendAt
import Derived.Deep.MidRow
import Derived.Great.Ranges
import Derived.Great.BuildSlice
namespace Go.Proofs.YtheoopbgbglmdaaDoor
open Go.RowKit

/-- the tracks ahead of k whose hammer has a pitch -/
def trk (l : List (Int × Int)) (p : Int) (k : Nat) : List Nat := (List.range k).filter fun j => decide (hPi l j = p)
def tcells (ts : List Nat) : List Value := ts.map fun (j : Nat) => .int .i64 (j : Int)
theorem trk_len (l : List (Int × Int)) (p : Int) (k : Nat) : (trk l p k).length ≤ k := by simpa [trk] using List.length_filter_le (fun j => decide (hPi l j = p)) (List.range k)
theorem trk_yes {l : List (Int × Int)} {p : Int} {k : Nat} (h : hPi l k = p) : trk l p (k + 1) = trk l p k ++ [k] := by simp [trk, List.range_succ, List.filter_append, h]
theorem trk_no {l : List (Int × Int)} {p : Int} {k : Nat} (h : ¬ hPi l k = p) : trk l p (k + 1) = trk l p k := by simp [trk, List.range_succ, List.filter_append, h]
def hamN (l : List (Int × Int)) (p : Int) : Nat := (trk l p l.length).length

/-- a slice of the call's own comes back -/
def OwnL (w : World) (xs : List Nat) (e : Ending) (w' : World) : Prop := ∃ (A : Option Addr) (c : Nat), e = .returned (.slice A xs.length c) ∧ w'.ownsRow w.heap.size 2 1 (.slice A xs.length c) xs.length (tcells xs) ∧ Below w.heap.size w w'
theorem own_shape {w : World} {base n : Nat} {e : TypeId} {size : Nat} {v : Value} {xs : List Value} (h : w.ownsRow base e size v n xs) : ∃ A c, v = .slice A n c := by
  rcases h.2 with ⟨h1, h2⟩ | ⟨g, cap, cur, h1, _⟩
  · exact ⟨none, 0, by rw [h1, h2]⟩
  · exact ⟨_, _, h1⟩
set_option maxHeartbeats 1000000 in
set_option maxRecDepth 20000 in
theorem tracksFor_any (s p : Int) (A : Option Addr) (c : Nat) (l : List (Int × Int)) (w : World) (hA : HA w A l) (hn : l.length ≤ 24) (hg : HG s l l.length) :
    Calls Tryd.prog 54 #[.slice A l.length c, .int .i64 p] w (OwnL w (trk l p l.length)) := by
  obtain ⟨i0, hi, hz0, hz1, hz2⟩ := info_parts info2
  have HGG := hide hg
  clear hg
  go_enter Tryd.func54, Tryd.ntmps54
  go_wp2_with fail
  go_loopw [5, 10] (fun v i wr => ∃ k : Nat, k ≤ l.length ∧ i = .int .i64 k ∧ wr.ownsRow w.heap.size 2 1 v (trk l p k).length (tcells (trk l p k)) ∧ Below w.heap.size w wr)
    (fun _ i _ => l.length - (intOf i).toNat)
  case atStart => exact ⟨0, Nat.zero_le _, rfl, ⟨rfl, Or.inl ⟨rfl, rfl⟩⟩, Below.refl _ _⟩
  case round =>
    obtain ⟨k, hk, rfl, hown, hb⟩ := hrel
    obtain ⟨A', c', rfl⟩ := own_shape hown
    by_cases hlt : k < l.length
    · obtain ⟨b, o, rfl, hbb, c1, c2⟩ := hA k hlt
      have d1 := (hb.cell (p := ⟨b, o + k * 2, none⟩) hbb).trans c1
      have d2 := (hb.cell (p := ⟨b, o + k * 2 + 1, none⟩) hbb).trans c2
      obtain ⟨⟨e3, e4⟩, _⟩ := HGG.out.at hlt
      have hb2 := hb.alloc hb.size (.cells #[.int .i8 (hPi l k), .int .i8 (hRe l k)] 88)
      have own2 := hown.alloc (.cells #[.int .i8 (hPi l k), .int .i8 (hRe l k)] 88)
      have hlen := trk_len l p k
      clear c1 c2 hA
      by_cases hp : hPi l k = p
      · have HT := hide (trk_yes hp)
        have hq : (hPi l k == p) = true := by simp [hp]
        clear hp
        have hnew : ∀ j u, ([.int .i64 (k : Int)] : List Value)[j]? = some u → ((wr.alloc (.cells #[.int .i8 (hPi l k), .int .i8 (hRe l k)] 88)).alloc (.cells #[.int .i64 (k : Int)] 2)).cell? ((⟨wr.heap.size + 1, 0, none⟩ : Addr).add j) = some u := by
          have h := cell_one_new (wr.alloc (.cells #[.int .i8 (hPi l k), .int .i8 (hRe l k)] 88)) (.int .i64 (k : Int)) 2
          rw [World.size_alloc] at h
          exact h
        have own3 := own2.alloc (.cells #[.int .i64 (k : Int)] 2)
        have hsz := hb.size
        go_wp2_with (at_builtin; refine wpList_append_own _ rfl _ _ 101 rfl w.heap.size 2 i0 (.int .i64 0) 1 8 Tryd.underlying101 hi hz0 hz1 hz2 rfl (by decide) _ _ _ rfl own3 ⟨wr.heap.size + 1, 0, none⟩ 1 1 [.int .i64 (k : Int)] rfl rfl hnew (fun x hx => by simp at hx; subst hx; rfl) (by unfold maxLen; omega) (by omega) (by simp; omega) ?_; intro v' w3 hown3 hgrow3 hnil3)
        have hb3 := (hb2.alloc hb2.size (.cells #[.int .i64 (k : Int)] 2)).grown hgrow3 (by simp; omega) (fun j hj => (hown.lt j hj).1)
        go_roundw
        case rel => exact ⟨k + 1, hlt, by go_num, by rw [HT.out, List.length_append, tcells, List.map_append]; exact hown3, hb3⟩
        case measure => simp [intOf]; omega
      · have HT := hide (trk_no hp)
        have hq : (hPi l k == p) = false := by simp [hp]
        clear hp
        go_wp2
        go_roundw
        case rel => exact ⟨k + 1, hlt, by go_num, by rw [HT.out]; exact own2, hb2⟩
        case measure => simp [intOf]; omega
    · obtain rfl : k = l.length := by omega
      go_wp2
      go_ret
      exact ⟨A', c', rfl, hown, hb⟩

/-- ErrInvalid, then ErrRange -/
def cod3 (a b : Bool) : Int := if a then (if b then 0 else 2) else 1
end Go.Proofs.YtheoopbgbglmdaaDoor
namespace Go.Proofs.YtheoopbgbglmdaaDoor
open Go.RowKit

/-- a drum's cells -/
def dv (d : Nat → Int) : List Value := (List.range 96).map fun i => .int .u32 (d i)
theorem dv_length (d : Nat → Int) : (dv d).length = 96 := by simp [dv]
theorem dv_get (d : Nat → Int) (i : Nat) (h : i < 96) : (dv d)[i]? = some (.int .u32 (d i)) := by simp [dv, h]
theorem dv_one (d : Nat → Int) : ∀ v ∈ dv d, v.oneCell' = true := by
  intro v hv
  simp only [dv, List.mem_map] at hv
  obtain ⟨i, _, rfl⟩ := hv
  rfl
theorem dv_set (d : Nat → Int) (k : Nat) (x : Int) : (dv d).set k (.int .u32 x) = dv (fun i => if i = k then x else d i) := by
  apply List.ext_getElem?
  intro i
  by_cases hi : i < 96
  · rw [dv_get _ _ hi, List.getElem?_set, dv_get _ _ hi, dv_length]
    by_cases e : k = i
    · subst e; simp [hi]
    · rw [if_neg e, if_neg (fun h => e h.symm)]
  · rw [List.getElem?_eq_none (by rw [List.length_set, dv_length]; omega), List.getElem?_eq_none (by rw [dv_length]; omega)]
theorem dv_congr {d d' : Nat → Int} (h : ∀ i, i < 96 → d i = d' i) : dv d = dv d' := by
  apply List.map_congr_left
  intro i hi
  rw [h i (List.mem_range.1 hi)]
/-- as an array -/
def da (d : Nat → Int) : Array Value := (dv d).toArray
theorem da_one (d : Nat → Int) : (da d).all (·.oneCell') = true := all_oneCell_toArray (dv_one d)
theorem da_size (d : Nat → Int) : (da d).size = 96 := by simp [da, dv_length]
/-- block g holds a drum, as a row of a type -/
def Dr (w : World) (g : Nat) (t : TypeId) (d : Nat → Int) : Prop := w.heap[g]? = some (.cells (da d) t (0, 0))
theorem Dr.lt {w : World} {g : Nat} {t : TypeId} {d : Nat → Int} (h : Dr w g t d) : g < w.heap.size := (Array.getElem?_eq_some_iff.1 h).1
theorem Dr.cell {w : World} {g : Nat} {t : TypeId} {d : Nat → Int} (h : Dr w g t d) {i : Nat} (hi : i < 96) : w.cell? ⟨g, i, none⟩ = some (.int .u32 (d i)) := by
  rw [cell_of_row w g i _ _ _ h]
  simpa [da] using dv_get d i hi
theorem Dr.frozen {w : World} {g : Nat} {t : TypeId} {d : Nat → Int} (h : Dr w g t d) (i : Nat) : w.frozen? ⟨g, i, none⟩ = false := frozen_of_row w g i _ _ h
theorem Dr.keep {w w' : World} {g : Nat} {t : TypeId} {d : Nat → Int} (h : Dr w g t d) (hb : Below w.heap.size w w') : Dr w' g t d := (hb.block g h.lt).trans h
theorem Dr.set {w : World} {g : Nat} {t : TypeId} {d : Nat → Int} (h : Dr w g t d) (k : Nat) (x : Int) : Dr (w.setCell ⟨g, k, none⟩ (.int .u32 x)) g t (fun i => if i = k then x else d i) := by
  have := heap_setCell_same w g k _ _ (.int .u32 x) h
  unfold Dr
  rw [this, da, da, ← dv_set]
  simp
theorem Dr.other {w : World} {g b k : Nat} {t : TypeId} {d : Nat → Int} (h : Dr w g t d) (hne : g ≠ b) (v : Value) : Dr (w.setCell ⟨b, k, none⟩ v) g t d := by
  unfold Dr at h ⊢
  rw [← h]
  exact heap_setCell_other w ⟨b, k, none⟩ g v hne
theorem Dr.congr {w : World} {g : Nat} {t : TypeId} {d d' : Nat → Int} (h : Dr w g t d) (he : ∀ i, i < 96 → d i = d' i) : Dr w g t d' := by
  unfold Dr da at *
  rw [h, dv_congr he]

def za : Array Value := (List.replicate 96 (.int .u32 0)).toArray
theorem rep_range (n : Nat) (v : Value) : List.replicate n v = (List.range n).map fun _ => v := by simp [List.map_const']
theorem za_eq : za = da fun _ => 0 := by
  unfold za da dv
  rw [rep_range]
theorem below_setRow {B g : Nat} {w w' : World} {cs : Array Value} (h : Below B w w') (hg : B ≤ g) : Below B w (w'.setRow g cs) :=
  h.trans ⟨rfl, rfl, rfl, by simp, fun k hk => setRow_other _ _ _ _ (by omega)⟩
theorem zeroDrum (w : World) : (zeroValue 108).run Tryd.prog w = .ok (.agg za) w := by kernel_rfl
theorem info108 : (Tryd.prog.info? 108).map (·.size) = some 96 := by kernel_rfl
theorem info107 : (Tryd.prog.info? 107).map (·.size) = some 96 := by kernel_rfl

end Go.Proofs.YtheoopbgbglmdaaDoor
