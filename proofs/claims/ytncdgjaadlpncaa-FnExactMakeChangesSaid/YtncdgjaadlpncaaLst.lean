import Derived.Test.YtncdgjaadlpncaaDs
namespace Go.Proofs.Ytncdgjaadlpncaa
open Go.RowKit

/-- the code of a frame and drums -/
def lstC (s : Int) (l : List (Int × Int)) (ds : List (Nat → Int)) : Int := if frB s l && drsB s l.length ds then (if ds.length ≤ 8 then 0 else 3) else 1
theorem lstC_inv {s : Int} {l : List (Int × Int)} {ds : List (Nat → Int)} (h : (frB s l && drsB s l.length ds) = false) : lstC s l ds = 1 := by rw [lstC, h]; rfl
theorem lstC_lim {s : Int} {l : List (Int × Int)} {ds : List (Nat → Int)} (h : (frB s l && drsB s l.length ds) = true) (h8 : 8 < ds.length) : lstC s l ds = 3 := by rw [lstC, h, if_pos rfl, if_neg (by omega)]
theorem lstC_ok {s : Int} {l : List (Int × Int)} {ds : List (Nat → Int)} (h : (frB s l && drsB s l.length ds) = true) (h8 : ds.length ≤ 8) : lstC s l ds = 0 := by rw [lstC, h, if_pos rfl, if_pos h8]

set_option maxRecDepth 20000 in
set_option maxHeartbeats 1000000 in
theorem l05Asked_any (b g e : Nat) (s : Int) (A : Option Addr) (c : Nat) (l : List (Int × Int)) (ds : List (Nat → Int)) (w : World) (hF : FP w b s A l.length c) (hA : HA w A l) (hn : l.length ≤ 1048576) (hwf : HWF l) (hs : -32768 ≤ s ∧ s ≤ 32767)
    (hL : LD w g ds) (hd : DsWF ds) (hds : ds.length ≤ 1048576) :
    Calls Try.prog 81 #[.pointer (some ⟨b, 0, none⟩), .slice (some ⟨g, 0, none⟩) ds.length e] w (SaysI (lstC s l ds) w) := by
  go_enter Try.func81, Try.ntmps81
  go_wp2_with fail
  refine (l02Frame_any _ s A c l _ hF hA hn hwf hs).mono ?_
  rintro e w1 ⟨rfl, hb1⟩
  cases hf : frB s l
  · have HC := hide (lstC_inv (s := s) (l := l) (ds := ds) (by rw [hf]; rfl))
    clear hf
    go_wp2
    go_ret
    exact ⟨ret_int HC.out.symm, hb1⟩
  · have hfa := frB_all hf
    have HF := hide hf
    clear hf
    have hF1 := hF.keep hb1
    have hL1 := hL.keep hb1
    go_wp2_with fail
    go_loopw [5] (fun i wr => ∃ k : Nat, k ≤ ds.length ∧ i = .int .i64 k ∧ VG s l.length ds k ∧ Below w.heap.size w wr ∧ Below w1.heap.size w1 wr)
      (fun i _ => ds.length - (intOf i).toNat)
    case atStart => exact ⟨0, Nat.zero_le _, rfl, fun j hj => absurd hj (Nat.not_lt_zero _), hb1, Below.refl _ _⟩
    case round =>
      obtain ⟨k, hk, rfl, hG, hb, hbb⟩ := hrel
      have HG := hide hG
      clear hG
      by_cases hlt : k < ds.length
      · have hLk := hL1.keep hbb
        go_wp2_with fail
        refine (l02Drum_at _ g _ s A l.length c (ds.getD k fun _ => 0) _ (hF1.keep hbb) hLk.lt (hLk.range hlt) hfa.2.1.2 hfa.1 (hd k hlt)).mono ?_
        rintro e w2 ⟨rfl, hb2⟩
        have b2 := step_below hb2 hb
        have bb2 := step_below hb2 hbb
        cases hdk : drB s l.length (ds.getD k fun _ => 0)
        · have HX := hide (drsB_no hlt hdk)
          clear hdk
          go_wp2
          go_ret
          exact ⟨ret_int (lstC_inv (by rw [HF.out, HX.out]; rfl)).symm, b2⟩
        · have HX := hide (VG_succ HG.out hdk)
          clear hdk
          go_wp2_with fail
          go_roundw
          case rel => exact ⟨k + 1, hlt, by go_num, HX.out, b2, bb2⟩
          case measure => simp [intOf]; omega
      · obtain rfl : k = ds.length := by omega
        have HX := hide (drsB_yes HG.out)
        by_cases h8 : ds.length ≤ 8
        · have HC := hide (lstC_ok (s := s) (l := l) (ds := ds) (by rw [HF.out, HX.out]; rfl) h8)
          go_wp2
          go_ret
          exact ⟨ret_int HC.out.symm, hb⟩
        · have h9 : 8 < ds.length := by omega
          have HC := hide (lstC_lim (s := s) (l := l) (ds := ds) (by rw [HF.out, HX.out]; rfl) h9)
          go_wp2
          go_ret
          exact ⟨ret_int HC.out.symm, hb⟩
end Go.Proofs.Ytncdgjaadlpncaa
