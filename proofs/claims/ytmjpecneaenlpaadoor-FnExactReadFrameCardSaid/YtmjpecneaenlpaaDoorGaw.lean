import Derived.Test.YtmjpecneaenlpaaDoorGan
import Derived.Maps.AppendAt
import Derived.Test.YtmjpecneaenlpaaDoorGav
namespace Go.Proofs.YtmjpecneaenlpaaDoor
open Go.RowKit
theorem cell_two_new' (w : World) (x y : Value) (t : TypeId) : ∀ j u, ([x, y] : List Value)[j]? = some u → (w.alloc (.cells #[x, y] t)).cell? ((⟨w.heap.size, 0, none⟩ : Addr).add j) = some u := by
  intro j u hu
  rw [Addr.add_lit]
  match j, hu with
  | 0, hu => simp at hu; subst hu; simp [go_sem]
  | 1, hu => simp at hu; subst hu; simp [go_sem]
theorem own_emptyT {w : World} {base : Nat} (t : TypeId) (size : Nat) (h : base ≤ w.heap.size) : (w.alloc (.cells #[] t)).ownsRow base t size (.slice (some ⟨w.heap.size, 0, none⟩) 0 0) 0 [] :=
  ⟨by simp, Or.inr ⟨w.heap.size, 0, #[], rfl, h, heap_alloc_new _ _, by simp, by simp, by simp, by simp⟩⟩
/-- notes of the call's own, and a code -/
def OwnN (w : World) (l : List (Int × Int)) (cc : Int) (e : Ending) (w' : World) : Prop := ∃ (C : Option Addr) (q : Nat), e = .returned (.tuple #[.slice C l.length q, .int .i64 cc]) ∧ w'.ownsRow w.heap.size 54 2 (.slice C l.length q) l.length (cellsOf l) ∧ Below w.heap.size w w'
end Go.Proofs.YtmjpecneaenlpaaDoor
namespace Go.Proofs.YtmjpecneaenlpaaDoor
open Go.RowKit
/-- the pieces of a text in a row of the call's own -/
def SpO (w : World) (s : ByteArray) (L : List (List UInt8)) (e : Ending) (w' : World) : Prop :=
  ∃ (A : Option Addr) (q : Nat) (ps : List ByteArray), e = .returned (.slice A ps.length q) ∧ ps.map (·.data.toList) = L ∧ (∀ x ∈ ps, x.size ≤ s.size) ∧ w'.ownsRow w.heap.size 9 1 (.slice A ps.length q) ps.length (strs ps) ∧ Below w.heap.size w w'
theorem cell_one_newR (w : World) (x : Value) (t : TypeId) : ∀ j u, ([x] : List Value)[j]? = some u → (w.alloc (.cells #[x] t)).cell? ((⟨w.heap.size, 0, none⟩ : Addr).add j) = some u := by
  intro j u hu
  match j, hu with
  | 0, hu =>
    obtain rfl := Option.some.inj hu
    rw [Addr.add_mid, cell_of_row _ _ _ _ _ _ (heap_alloc_new _ _)]
    rfl
theorem piece_of {s : ByteArray} {p k : Nat} (_ : p ≤ k) : (s.extract p k).data.toList = (s.data.toList.take k).drop p := by
  rw [ex_data, List.drop_take]
theorem spA_hit {c : UInt8} {l : List UInt8} {p k : Nat} (hp : p ≤ k) (hk : k < l.length) (hc : l[k] = c) (hno : ∀ x ∈ (l.take k).drop p, x ≠ c) : spA c (l.drop p) = (l.take k).drop p :: spA c (l.drop (k + 1)) := by
  have h1 : l.drop p = (l.take k).drop p ++ c :: l.drop (k + 1) := by
    have h2 : l = l.take k ++ c :: l.drop (k + 1) := by
      rw [← hc, ← List.drop_eq_getElem_cons hk, List.take_append_drop]
    have h3 : (l.take k).length = k := by rw [List.length_take]; omega
    conv => lhs; rw [h2, List.drop_append_of_le_length (by omega)]
  rw [h1, spA_at c _ _ hno]
theorem no_more {c : UInt8} {l : List UInt8} {p k : Nat} (hk : k < l.length) (hp : p ≤ k) (hc : l[k] ≠ c) (hno : ∀ x ∈ (l.take k).drop p, x ≠ c) : ∀ x ∈ (l.take (k + 1)).drop p, x ≠ c := by
  intro x hx
  rw [List.take_succ_eq_append_getElem hk, List.drop_append_of_le_length (by rw [List.length_take]; omega)] at hx
  rcases List.mem_append.1 hx with h | h
  · exact hno x h
  · rw [List.mem_singleton.1 h]
    exact hc
set_option maxRecDepth 20000 in
set_option maxHeartbeats 4000000 in
theorem l01Split_any (s : ByteArray) (c : UInt8) (cn : Nat) (hcn : cn = c.toNat) (w : World) (hs : s.size ≤ 1048576) :
    Calls Tryd.prog 27 #[.string s, .int .u8 cn] w (SpO w s (spA c s.data.toList)) := by
  obtain ⟨i0, hi, hz0, hz1, hz2⟩ := info_parts info9
  have HCN := hide hcn
  clear hcn
  have HFIN := hide (show ∀ (ps : List ByteArray) (A : Option Addr) (q : Nat) (w' : World), ps.map (·.data.toList) = spA c s.data.toList → w'.ownsRow w.heap.size 9 1 (.slice A ps.length q) ps.length (strs ps) → Below w.heap.size w w' → SpO w s (spA c s.data.toList) (.returned (.slice A ps.length q)) w' from fun ps A q w' h1 h2 h3 => ⟨A, q, ps, rfl, h1, fun x hx => by
    have := spA_part c s.data.toList x.data.toList (by rw [← h1]; exact List.mem_map_of_mem hx)
    rw [ba_size, ba_size] at this
    exact this, h2, h3⟩)
  have hE : (w.alloc (.cells #[] 9)).ownsRow w.heap.size 9 1 (.slice (some ⟨w.heap.size, 0, none⟩) 0 0) 0 (strs []) := own_emptyT _ _ (Nat.le_refl _)
  have hb0 : Below w.heap.size w (w.alloc (.cells #[] 9)) := (Below.refl _ _).alloc (Nat.le_refl _) _
  go_enter Tryd.func27, Tryd.ntmps27
  go_wp2_with fail
  go_loopw [5, 6, 7] (fun v b i wr => ∃ (ps : List ByteArray) (p k n : Nat), p ≤ k ∧ k ≤ s.size ∧ b = .int .i64 p ∧ i = .int .i64 k ∧ ps.length = n ∧ n ≤ k ∧ ps.map (·.data.toList) ++ spA c (s.data.toList.drop p) = spA c s.data.toList ∧ (∀ x ∈ (s.data.toList.take k).drop p, x ≠ c) ∧ wr.ownsRow w.heap.size 9 1 v n (strs ps) ∧ Below w.heap.size w wr)
    (fun _ _ i _ => s.size - (intOf i).toNat)
  case atStart => exact ⟨[], 0, 0, 0, Nat.le_refl _, Nat.zero_le _, rfl, rfl, rfl, Nat.le_refl _, rfl, fun x hx => by simp at hx, hE, hb0⟩
  case round =>
    obtain ⟨ps, p, k, n, hpk, hk, rfl, rfl, hn, hnk, hsp, hno, hown, hb⟩ := hrel
    obtain ⟨A', c', rfl⟩ := own_shapeS hown
    have p0 : (0 : Int) ≤ (p : Int) := by omega
    have p1 : (p : Int) ≤ (k : Int) := by omega
    have p2 : (k : Int) ≤ (s.size : Int) := by omega
    have p3 : (p : Int) ≤ (s.size : Int) := by omega
    have hszb := hb.size
    by_cases hlt : k < s.size
    · have hki : (k : Int) < (s.size : Int) := by omega
      have hkl : k < s.data.toList.length := by rw [ba_size]; exact hlt
      obtain ⟨x, hx⟩ : ∃ x, s.data.toList[k] = x := ⟨_, rfl⟩
      have hix := idxS s k x (by rw [List.getElem?_eq_getElem hkl, hx])
      have hw1 : IntKind.i64.wrap ((k : Int) + 1) = ((k + 1 : Nat) : Int) := by rw [IntWalk.i64_in _ (by omega)]; rfl
      by_cases he : x = c
      · subst he
        have HS := hide (show (ps ++ [s.extract p k]).map (·.data.toList) ++ spA x (s.data.toList.drop (k + 1)) = spA x s.data.toList by
          rw [← hsp, spA_hit hpk hkl hx hno, List.map_append, List.map_singleton, piece_of hpk, List.append_assoc]; rfl)
        rw [← HCN.out] at hix
        have HL := hide (show (ps ++ [s.extract p k]).length = n + 1 by rw [List.length_append, hn]; rfl)
        clear hsp hno hx hn
        obtain ⟨X, hX⟩ : ∃ X, X = s.extract p k := ⟨_, rfl⟩
        have HX := hide hX
        have hnew := cell_one_newR wr (.string X) 9
        have own5 := hown.alloc (.cells #[.string X] 9)
        have hb5 := hb.alloc hb.size (.cells #[.string X] 9)
        go_upto_region 7 with fail
        go_wp2_with (at_builtin; rw [← hX]; refine wpList_append_own _ rfl _ _ 47 rfl w.heap.size 9 i0 (.string ⟨#[]⟩) 1 16 Tryd.underlying47 hi hz0 hz1 hz2 rfl (by decide) _ _ _ rfl own5 ⟨wr.heap.size, 0, none⟩ 1 1 [.string X] rfl rfl hnew (fun x hx => by simp at hx; subst hx; rfl) (by unfold maxLen; omega) (by omega) (by simp; omega) ?_; intro v' w6 hown6 hgrow6 hnil6)
        have hb6 := hb5.grown hgrow6 hb5.size (fun j hj => (own5.lt j hj).1)
        go_roundw
        case rel => exact ⟨ps ++ [s.extract p k], k + 1, k + 1, n + 1, Nat.le_refl _, hlt, rfl, rfl, HL.out, by omega, HS.out, fun x hx => by rw [List.drop_eq_nil_of_le (by rw [List.length_take]; omega)] at hx; simp at hx, by rw [← HX.out, strs, List.map_append]; exact hown6, hb6⟩
        case measure => simp [intOf]; omega
      · have hne : ¬ (x.toNat : Int) = (cn : Int) := by rw [HCN.out]; intro h; exact he (UInt8.toNat_inj.1 (by omega))
        have HN := hide (no_more hkl hpk (by rw [hx]; exact he) hno)
        have HS := hide hsp
        have HL := hide hn
        clear hsp hno hx hn he
        generalize x.toNat = xn at *
        go_wp2_with fail
        go_roundw
        case rel => exact ⟨ps, p, k + 1, n, by omega, hlt, rfl, rfl, HL.out, by omega, HS.out, HN.out, hown, hb⟩
        case measure => simp [intOf]; omega
    · obtain rfl : k = s.size := by omega
      have hki : ¬ (s.size : Int) < (s.size : Int) := by omega
      have HS := hide (show (ps ++ [s.extract p s.size]).map (·.data.toList) = spA c s.data.toList by
        rw [← hsp, List.map_append, List.map_singleton, piece_of hpk]
        rw [List.take_of_length_le (by rw [ba_size]; exact Nat.le_refl _)] at hno ⊢
        rw [spA_no c _ hno])
      have HL := hide (show (ps ++ [s.extract p s.size]).length = n + 1 by rw [List.length_append, hn]; rfl)
      clear hsp hno hn
      obtain ⟨X, hX⟩ : ∃ X, X = s.extract p s.size := ⟨_, rfl⟩
      have HX := hide hX
      have hnew := cell_one_newR wr (.string X) 9
      have own5 := hown.alloc (.cells #[.string X] 9)
      have hb5 := hb.alloc hb.size (.cells #[.string X] 9)
      go_upto_region 9 with fail
      go_wp2_with (at_builtin; rw [← hX]; refine wpList_append_own _ rfl _ _ 47 rfl w.heap.size 9 i0 (.string ⟨#[]⟩) 1 16 Tryd.underlying47 hi hz0 hz1 hz2 rfl (by decide) _ _ _ rfl own5 ⟨wr.heap.size, 0, none⟩ 1 1 [.string X] rfl rfl hnew (fun x hx => by simp at hx; subst hx; rfl) (by unfold maxLen; omega) (by omega) (by simp; omega) ?_; intro v' w6 hown6 hgrow6 hnil6)
      have hb6 := hb5.grown hgrow6 hb5.size (fun j hj => (own5.lt j hj).1)
      obtain ⟨A6, c6, rfl⟩ := own_shapeS hown6
      go_ret
      have := HFIN.out (ps ++ [s.extract p s.size]) A6 c6 w6 HS.out (by rw [HL.out, strs, List.map_append, ← HX.out]; exact hown6) hb6
      rw [HL.out] at this
      exact this
end Go.Proofs.YtmjpecneaenlpaaDoor
