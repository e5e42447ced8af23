import Derived.Test.YtfkmippodmglnaaDoorAsc
import Derived.Test.YtfkmippodmglnaaDoorEqt
import Derived.Test.YtfkmippodmglnaaDoorGac
import Derived.Test.YtfkmippodmglnaaDoorPnm
namespace Go.Proofs.YtfkmippodmglnaaDoor
open Go.RowKit

theorem okB_eq (l : List (Int × Int)) : okB l = (decide (l.length ≤ 120) && rangeB l && ascB l) := by
  have : (List.range l.length).all (good l) = (rangeB l && ascB l) := by
    rw [Bool.eq_iff_iff]
    simp only [good, rangeB, ascB, List.all_eq_true, List.mem_range, Bool.and_eq_true]
    exact ⟨fun h => ⟨fun j hj => (h j hj).1, fun j hj => (h j hj).2⟩, fun h j hj => ⟨h.1 j hj, h.2 j hj⟩⟩
  rw [okB, this, Bool.and_comm, Bool.and_assoc]

set_option maxHeartbeats 400000 in
theorem implValid_any (A : Option Addr) (c : Nat) (l : List (Int × Int)) (w : World) (hA : NA w A l) (hn : l.length ≤ 1048576) (hwf : WF l) :
    Calls Tryd.prog 43 #[.slice A l.length c] w (Says (okB l) w) := by
  have HO := hide (okB_eq l)
  have hW0 : Below w.heap.size w (w.alloc (.cells #[.func (.func 71) #[] #[], .func (.func 72) #[] #[], .func (.func 73) #[] #[]] 82)) := (Below.refl _ _).alloc (Nat.le_refl _) _
  go_enter Tryd.func43, Tryd.ntmps43
  go_wp2_with fail
  go_loopw [9] (fun i wr => ∃ k : Nat, k ≤ 3 ∧ i = .int .i64 k ∧ (0 < k → decide (l.length ≤ 120) = true) ∧ (1 < k → rangeB l = true) ∧ (2 < k → ascB l = true) ∧
      wr.cell? ⟨w.heap.size, 0, none⟩ = some (.func (.func 71) #[] #[]) ∧ wr.cell? ⟨w.heap.size, 1, none⟩ = some (.func (.func 72) #[] #[]) ∧ wr.cell? ⟨w.heap.size, 2, none⟩ = some (.func (.func 73) #[] #[]) ∧ Below w.heap.size w wr)
    (fun i _ => 4 - (intOf i).toNat)
  case atStart =>
    exact ⟨0, by omega, rfl, fun h => absurd h (by omega), fun h => absurd h (by omega), fun h => absurd h (by omega), by simp [go_sem], by simp [go_sem], by simp [go_sem], hW0⟩
  case round =>
    obtain ⟨k, hk, rfl, e1, e2, e3, f1, f2, f3, hb⟩ := hrel
    have E1 := hide e1
    have E2 := hide e2
    have E3 := hide e3
    clear e1 e2 e3
    have hs := hb.size
    have l1 := World.block_lt_of_cell? wr _ f1
    match k, hk with
    | 0, _ =>
      go_wp2_with (go_at_call 71; refine (isShort_any A l.length c hn _).mono ?_; rintro e w2 ⟨rfl, rfl⟩)
      · go_ret
        exact ⟨ret_bool (by rw [HO.out, Bool.not_eq_true' _ |>.mp ‹(!decide (l.length ≤ 120)) = true›]; rfl), hb⟩
      · go_roundw
        case rel => exact ⟨1, by omega, by go_num, fun _ => Bool.not_eq_false' _ |>.mp ‹(!decide (l.length ≤ 120)) = false›, fun h => absurd h (by omega), fun h => absurd h (by omega), f1, f2, f3, hb⟩
        case measure => simp [intOf]
    | 1, _ =>
      go_wp2_with (go_at_call 72; refine (isInRange_any A c l _ (hA.below hb) hn hwf).mono ?_; rintro e w2 ⟨rfl, hb2⟩)
      · go_ret
        exact ⟨ret_bool (by rw [HO.out, show rangeB l = false by simpa using ‹(!rangeB l) = true›]; simp), hb.trans (hb2.mono hs)⟩
      · go_roundw
        case rel => exact ⟨2, by omega, by go_num, fun _ => E1.out (by omega), fun _ => by simpa using ‹(!rangeB l) = false›, fun h => absurd h (by omega), (hb2.cell (p := ⟨_, _, none⟩) l1).trans f1, (hb2.cell (p := ⟨_, _, none⟩) l1).trans f2, (hb2.cell (p := ⟨_, _, none⟩) l1).trans f3, hb.trans (hb2.mono hs)⟩
        case measure => simp [intOf]
    | 2, _ =>
      go_wp2_with (go_at_call 73; refine (ascends_any A c l _ (hA.below hb) hn).mono ?_; rintro e w2 ⟨rfl, hb2⟩)
      · go_ret
        exact ⟨ret_bool (by rw [HO.out, show ascB l = false by simpa using ‹(!ascB l) = true›]; simp), hb.trans (hb2.mono hs)⟩
      · go_roundw
        case rel => exact ⟨3, by omega, by go_num, fun _ => E1.out (by omega), fun _ => E2.out (by omega), fun _ => by simpa using ‹(!ascB l) = false›, (hb2.cell (p := ⟨_, _, none⟩) l1).trans f1, (hb2.cell (p := ⟨_, _, none⟩) l1).trans f2, (hb2.cell (p := ⟨_, _, none⟩) l1).trans f3, hb.trans (hb2.mono hs)⟩
        case measure => simp [intOf]
    | 3, _ =>
      go_wp2
      go_ret
      exact ⟨ret_bool (by rw [HO.out, E1.out (by omega), E2.out (by omega), E3.out (by omega)]; rfl), hb⟩

end Go.Proofs.YtfkmippodmglnaaDoor
namespace Go.Proofs.YtfkmippodmglnaaDoor
open Go.RowKit
/-- the k-th note's text, and a tune's text -/
def ttC (l : List (Int × Int)) (k : Nat) : ByteArray := ⟨(Lib.decDigits (nAt l k).toNat).toArray⟩ ++ ⟨#[58]⟩ ++ pnV (nPi l k)
def ttV (l : List (Int × Int)) : ByteArray := if okB l = true then ⟨(txJ (ttC l) 32 l.length).toArray⟩ else ⟨#[]⟩
theorem okB_get {l : List (Int × Int)} (h : okB l = true) : l.length ≤ 120 ∧ ∀ j, j < l.length → (0 ≤ nAt l j ∧ nAt l j ≤ 199) ∧ (0 ≤ nPi l j ∧ nPi l j ≤ 47) := by
  rw [okB_eq] at h
  simp only [Bool.and_eq_true, decide_eq_true_eq] at h
  refine ⟨h.1.1, fun j hj => ?_⟩
  cases hn : noteB (nAt l j) (nPi l j)
  · have := rangeB_no l j hj hn
    rw [this] at h
    exact absurd h.1.2 (by decide)
  · simpa [noteB] using hn
theorem ttC_len {l : List (Int × Int)} {j : Nat} (ha : 0 ≤ nAt l j ∧ nAt l j ≤ 199) : (ttC l j).data.toList.length ≤ 7 := by
  have h1 := dec_len3 (show (nAt l j).toNat < 1000 by omega)
  have h2 := pnV_len (nPi l j)
  simp only [ttC, ByteArray.data_append, Array.toList_append, List.length_append, List.length_cons, List.length_nil]
  omega
theorem ttJ_len {l : List (Int × Int)} (h : okB l = true) (k : Nat) (hk : k ≤ l.length) : (txJ (ttC l) 32 k).length ≤ 960 := by
  have h1 := okB_get h
  have := txJ_len (ttC l) 32 7 k fun j hj => ttC_len (h1.2 j (by omega)).1
  omega
end Go.Proofs.YtfkmippodmglnaaDoor
