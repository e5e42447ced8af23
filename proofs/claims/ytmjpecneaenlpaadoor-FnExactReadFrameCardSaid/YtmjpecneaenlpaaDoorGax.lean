import Derived.Test.YtmjpecneaenlpaaDoorRsm
import Derived.Test.YtmjpecneaenlpaaDoorGav
import Derived.Test.YtmjpecneaenlpaaDoorGaw
import Derived.Shelf.Strings.Split
import Derived.Test.YtmjpecneaenlpaaDoorPnm
namespace Go.Proofs.YtmjpecneaenlpaaDoor
open Go.RowKit
theorem sepB_data (c : UInt8) : (⟨#[c]⟩ : ByteArray).data.toList = [c] := rfl
theorem sepB_size (c : UInt8) : (⟨#[c]⟩ : ByteArray).size = 1 := rfl
theorem genSplit_one (s : ByteArray) (c : UInt8) (n N : Nat) (w : World) (hs : s.size ≤ 1048576) (hn : 1 ≤ n) (h63 : n ≤ 1000000) (hN : N = min n (s.size + 1)) :
    Calls Tryd.prog 54 #[.string s, .string ⟨#[c]⟩, .int .i64 (0 : Nat), .int .i64 n] w fun e w' => e = .returned (.slice (some ⟨w.heap.size, 0, none⟩) (Lib.splitB ⟨#[c]⟩ 0 (N - 1) s).length N) ∧ w' = w.alloc (.cells (Lib.cellsOf (Lib.splitB ⟨#[c]⟩ 0 (N - 1) s) N) 9) :=
  Any.strings_genSplit_core Tryd.lays221 (by kernel_rfl) s ⟨#[c]⟩ 0 n N w (by omega) (by rw [sepB_size]; exact Nat.le_refl _) (Nat.zero_le _)
    (fun x cs _ => (Tryd.strings_Index_one x c (w.alloc (.cells cs 9))).mono fun e w' ⟨he, hw⟩ => ⟨by rw [he]; show _ = Ending.returned (Value.int .i64 (Lib.index x.data.toList [c])); rw [Lib.index_one], hw⟩)
    ((Tryd.strings_Count_one s c w).mono fun e w' ⟨he, hw⟩ => ⟨by rw [he]; show _ = Ending.returned (Value.int .i64 ((Lib.count s.data.toList [c] : Nat) : Int)); rw [Lib.count_one]; rfl, hw⟩)
    (by omega) (by omega) (by rw [if_neg (by omega)]; omega)
set_option maxRecDepth 20000 in
set_option maxHeartbeats 4000000 in
theorem splitN_one (s : ByteArray) (c : UInt8) (n : Nat) (w : World) (hs : s.size ≤ 1048576) (hn : 1 ≤ n) (h63 : n ≤ 1000000) :
    Calls Tryd.prog 31 #[.string s, .string ⟨#[c]⟩, .int .i64 n] w (SpO w s (spN c n s.data.toList)) := by
  have K := genSplit_one s c n (min n (s.size + 1)) w hs hn h63 rfl
  have hd : (Lib.splitB ⟨#[c]⟩ 0 (min n (s.size + 1) - 1) s).map (·.data.toList) = spN c n s.data.toList := by
    rw [Lib.splitB_data, sepB_data, splitK_spN, show min n (s.size + 1) - 1 + 1 = min n (s.data.toList.length + 1) by rw [ba_size]; omega, spN_min]
  have hl : (Lib.splitB ⟨#[c]⟩ 0 (min n (s.size + 1) - 1) s).length ≤ min n (s.size + 1) := Nat.le_trans (Lib.splitB_length_le _ _ _ _) (by omega)
  have hm : min n (s.size + 1) ≤ 1000000 := by omega
  generalize min n (s.size + 1) = N at *
  generalize Lib.splitB ⟨#[c]⟩ 0 (N - 1) s = ps at *
  have hfin : SpO w s (spN c n s.data.toList) (.returned (.slice (some ⟨w.heap.size, 0, none⟩) ps.length N)) (w.alloc (.cells (Lib.cellsOf ps N) 9)) := by
    refine ⟨_, _, ps, rfl, hd, fun x hx => ?_, ⟨by simp [strs], Or.inr ⟨w.heap.size, N, Lib.cellsOf ps N, rfl, Nat.le_refl _, by rw [heap_alloc_new], hl, by unfold maxLen; omega, by rw [Lib.cellsOf_size hl]; omega, ?_⟩⟩, (Below.refl _ _).alloc (Nat.le_refl _) _⟩
    · have := spN_part c n s.data.toList x.data.toList (by rw [← hd]; exact List.mem_map_of_mem hx)
      rw [ba_size, ba_size] at this
      exact this
    · simp [Lib.cellsOf, strs]
  have HF := hide hfin
  clear hfin hd hl hm
  go_enter Tryd.func31, Tryd.ntmps31
  go_wp2_with (go_at_call 54; refine K.mono ?_; rintro e w' ⟨rfl, hw⟩; rw [hw])
  go_ret
  exact HF.out
set_option maxRecDepth 20000 in
set_option maxHeartbeats 4000000 in
theorem slCut_one (s : ByteArray) (c : UInt8) (w : World) (hs : s.size ≤ 1048576) :
    Calls Tryd.prog 78 #[.string s, .string ⟨#[c]⟩] w fun e w' => Below w.heap.size w w' ∧ ∃ (a b : ByteArray) (f : Bool), e = .returned (.tuple #[.string a, .string b, .bool f]) ∧ a.size ≤ s.size ∧ b.size ≤ s.size ∧ cutQ c s.data.toList = if f = true then some (a.data.toList, b.data.toList) else none := by
  have K := fun W => Tryd.stringslite_Index_one s c W
  by_cases hc : c ∈ s.data.toList
  · have h1 := ib_in hc
    have h2 : (s.data.toList.takeWhile (fun x => x != c)).length + 1 ≤ s.size := by
      have := congrArg List.length (tw_split hc)
      simp only [List.length_append, List.length_cons, ba_size] at this
      omega
    have hq : cutQ c s.data.toList = some ((s.extract 0 (s.data.toList.takeWhile (fun x => x != c)).length).data.toList, (s.extract ((s.data.toList.takeWhile (fun x => x != c)).length + 1) s.size).data.toList) := by
      unfold cutQ
      rw [if_pos hc, ex_data, ex_data, List.drop_zero, Nat.sub_zero, tk_of hc, List.take_of_length_le (by rw [List.length_drop, ba_size]; exact Nat.le_refl _)]
    generalize (s.data.toList.takeWhile (fun x => x != c)).length = i at *
    rw [h1] at K
    have HQ := hide hq
    clear hc h1 hq
    have c1 : (0 : Int) ≤ (i : Int) := by omega
    have c2 : (i : Int) ≤ (s.size : Int) := by omega
    obtain ⟨p, hp⟩ : ∃ p : ByteArray, p = ⟨#[c]⟩ := ⟨_, rfl⟩
    have hp1 : p.size = 1 := by rw [hp]; rfl
    have c3 : (0 : Int) ≤ (i : Int) + (p.size : Int) := by omega
    have c4 : (i : Int) + (p.size : Int) ≤ (s.size : Int) := by omega
    have hpp : s.extract (i + p.size) s.size = s.extract (i + 1) s.size := by rw [hp1]
    have HPP := hide hpp
    rw [← hp] at K ⊢
    have hw1 : IntKind.i64.wrap ((i : Int) + (p.size : Int)) = (i : Int) + (p.size : Int) := IntWalk.i64_in _ (by omega)
    have mixed : Tryd.prog.follows Departure.mixedOrders = true := by kernel_rfl
    clear hp hp1 hpp h2
    have e107 : ∀ args w, (callFunc 107 args).run Tryd.prog w = .ok (.enter 107 args) w := enters_of Tryd.func107 (by kernel_rfl) rfl
    go_enter Tryd.func78, Tryd.ntmps78
    go_wp2_with (go_at_call 107; refine (K _).mono ?_; rintro e w' ⟨rfl, hw⟩; rw [hw])
    go_region_o
    go_wp2
    go_ret3
    exact ⟨(Below.refl _ _).drew, _, _, true, rfl, by rw [ByteArray.size_extract]; omega, by rw [ByteArray.size_extract]; omega, by rw [HQ.out, HPP.out]; rfl⟩
  · have h1 := ib_no hc
    have hq : cutQ c s.data.toList = none := by unfold cutQ; rw [if_neg hc]
    rw [h1] at K
    have HQ := hide hq
    clear hc h1 hq
    go_enter Tryd.func78, Tryd.ntmps78
    go_wp2_with (go_at_call 107; refine (K _).mono ?_; rintro e w' ⟨rfl, hw⟩; rw [hw])
    go_ret3
    exact ⟨Below.refl _ _, s, ⟨#[]⟩, false, rfl, Nat.le_refl _, by show 0 ≤ _; omega, by rw [HQ.out]; rfl⟩
set_option maxRecDepth 20000 in
set_option maxHeartbeats 4000000 in
theorem cut_one (s : ByteArray) (c : UInt8) (w : World) (hs : s.size ≤ 1048576) :
    Calls Tryd.prog 55 #[.string s, .string ⟨#[c]⟩] w fun e w' => Below w.heap.size w w' ∧ ∃ (a b : ByteArray) (f : Bool), e = .returned (.tuple #[.string a, .string b, .bool f]) ∧ a.size ≤ s.size ∧ b.size ≤ s.size ∧ cutQ c s.data.toList = if f = true then some (a.data.toList, b.data.toList) else none := by
  have K := slCut_one s c w hs
  go_enter Tryd.func55, Tryd.ntmps55
  go_wp2_with (go_at_call 78; refine K.mono ?_; rintro e w1 ⟨hb, a, b, f, rfl, h1, h2, h3⟩)
  go_ret3
  exact ⟨hb, a, b, f, rfl, h1, h2, h3⟩
end Go.Proofs.YtmjpecneaenlpaaDoor
namespace Go.Proofs.YtmjpecneaenlpaaDoor
open Go.RowKit
/-- the table of powers of ten and the names of the half steps lie as they are laid -/
abbrev PsW (w : World) : Prop := PowW w ∧ StpW w
theorem PsW.keep {w w' : World} (h : PsW w) (hb : Below w.heap.size w w') : PsW w' := ⟨h.1.below hb, h.2.below hb⟩
end Go.Proofs.YtmjpecneaenlpaaDoor
