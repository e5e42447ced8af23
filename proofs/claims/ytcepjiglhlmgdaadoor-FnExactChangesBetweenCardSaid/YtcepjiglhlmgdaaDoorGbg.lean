import Derived.Test.YtcepjiglhlmgdaaDoorGar
import Derived.Test.YtcepjiglhlmgdaaDoorSl
import Derived.Test.YtcepjiglhlmgdaaDoorGas
namespace Go.Proofs.YtcepjiglhlmgdaaDoor
open Go.RowKit

/-- under an address lie drums, one behind the other -/
def DsA (w : World) (A : Option Addr) (ds : List (Nat → Int)) : Prop := ∀ k, k < ds.length → ∃ b o, A = some ⟨b, o, none⟩ ∧ b < w.heap.size ∧ w.rangeAt b (o + k * 96) (dv (ds.getD k fun _ => 0))
def DsWF (ds : List (Nat → Int)) : Prop := ∀ j, j < ds.length → DWF (ds.getD j (fun _ => 0))
theorem DsA.below {w w' : World} {A : Option Addr} {ds : List (Nat → Int)} (h : DsA w A ds) (hb : Below w.heap.size w w') : DsA w' A ds := fun k hk => by
  obtain ⟨b, o, h1, h2, h3⟩ := h k hk
  exact ⟨b, o, h1, Nat.lt_of_lt_of_le h2 hb.size, rangeAt_keep h3 h2 hb⟩
theorem infoDr : (Tryd.prog.info? 49).map (fun i => (i.zero, i.size, i.bytes)) = some (some (.agg za), 96, 384) := by kernel_rfl

theorem there_keep {w w' : World} {g o n : Nat} (h : w.there g o n) (hg : g < w.heap.size) (hb : Below w.heap.size w w') : w'.there g o n := fun j hj => by
  obtain ⟨h1, h2⟩ := h j hj
  refine ⟨by rw [hb.cell (p := ⟨g, o + j, none⟩) hg]; exact h1, ?_⟩
  simp only [World.frozen?, hb.block g hg] at h2 ⊢
  exact h2
theorem there_part {w : World} {g n o m : Nat} (h : w.there g 0 n) (hm : o + m ≤ n) : w.there g o m := fun j hj => by
  have := h (o + j) (by omega)
  rwa [Nat.zero_add] at this

end Go.Proofs.YtcepjiglhlmgdaaDoor
namespace Go.Proofs.YtcepjiglhlmgdaaDoor
open Go.RowKit

/-- the code of a frame and drums -/
def lstC (s : Int) (l : List (Int × Int)) (ds : List (Nat → Int)) : Int := if frB s l && drsB s l.length ds then (if ds.length ≤ 8 then 0 else 3) else 1
theorem lstC_inv {s : Int} {l : List (Int × Int)} {ds : List (Nat → Int)} (h : (frB s l && drsB s l.length ds) = false) : lstC s l ds = 1 := by rw [lstC, h]; rfl
theorem lstC_lim {s : Int} {l : List (Int × Int)} {ds : List (Nat → Int)} (h : (frB s l && drsB s l.length ds) = true) (h8 : 8 < ds.length) : lstC s l ds = 3 := by rw [lstC, h, if_pos rfl, if_neg (by omega)]
theorem lstC_ok {s : Int} {l : List (Int × Int)} {ds : List (Nat → Int)} (h : (frB s l && drsB s l.length ds) = true) (h8 : ds.length ≤ 8) : lstC s l ds = 0 := by rw [lstC, h, if_pos rfl, if_pos h8]

end Go.Proofs.YtcepjiglhlmgdaaDoor
namespace Go.Proofs.YtcepjiglhlmgdaaDoor
open Go.RowKit

/-- the cost of a drum behind another one -/
def cstI (a b : Nat → Int) : Int := mvI a b + mvI b a
theorem mvI_bd (p q : Nat → Int) : 0 ≤ mvI p q ∧ mvI p q ≤ 412316860320 := by
  have h := cntT_le (mvD p q) (mv_wf p q) 96 (Nat.le_refl _)
  unfold mvI cntI
  omega
def ccI (s : Int) (l : List (Int × Int)) (a b : Nat → Int) : Int := onlyI (ask2B s l a b) (cstI a b)

set_option maxRecDepth 20000 in
set_option maxHeartbeats 1000000 in
theorem l05Both_any (x g h : Nat) (s : Int) (A : Option Addr) (c : Nat) (l : List (Int × Int)) (a b : Nat → Int) (w : World) (hF : FP w x s A l.length c) (hA : HA w A l) (hn : l.length ≤ 1048576) (hwf : HWF l) (hs : -32768 ≤ s ∧ s ≤ 32767)
    (hD : Dr w g 49 a) (hE : Dr w h 49 b) (ha : DWF a) (hb : DWF b) :
    Calls Tryd.prog 34 #[.pointer (some ⟨x, 0, none⟩), .pointer (some ⟨g, 0, none⟩), .pointer (some ⟨h, 0, none⟩)] w (SaysI (codeI (ask2B s l a b)) w) := by
  go_enter Tryd.func34, Tryd.ntmps34
  go_wp2_with fail
  refine (l02Frame_any _ s A c l _ hF hA hn hwf hs).mono ?_
  rintro e w1 ⟨rfl, hb1⟩
  have F1 := hF.keep hb1
  have D1 := hD.keep hb1
  have E1 := hE.keep hb1
  cases hf : frB s l
  · have HX := hide (show codeI (ask2B s l a b) = 1 by simp [ask2B, hf, codeI])
    clear hf
    go_wp2
    go_ret
    exact ⟨ret_int HX.out.symm, hb1⟩
  · have hfa := frB_all hf
    go_wp2_with fail
    refine (l02Drum_any _ _ s A l.length c a _ F1 D1 hfa.2.1.2 hfa.1 ha).mono ?_
    rintro e w2 ⟨rfl, hb2⟩
    have b2 := step_below hb2 hb1
    have F2 := F1.keep hb2
    have E2 := E1.keep hb2
    cases hda : drB s l.length a
    · have HX := hide (show codeI (ask2B s l a b) = 1 by simp [ask2B, hf, hda, codeI])
      clear hf hda
      go_wp2
      go_ret
      exact ⟨ret_int HX.out.symm, b2⟩
    · go_wp2_with fail
      refine (l02Drum_any _ _ s A l.length c b _ F2 E2 hfa.2.1.2 hfa.1 hb).mono ?_
      rintro e w3 ⟨rfl, hb3⟩
      have b3 := step_below hb3 b2
      cases hdb : drB s l.length b
      · have HX := hide (show codeI (ask2B s l a b) = 1 by simp [ask2B, hf, hda, hdb, codeI])
        clear hf hda hdb
        go_wp2
        go_ret
        exact ⟨ret_int HX.out.symm, b3⟩
      · have HX := hide (show codeI (ask2B s l a b) = 0 by simp [ask2B, hf, hda, hdb, codeI])
        clear hf hda hdb
        go_wp2
        go_ret
        exact ⟨ret_int HX.out.symm, b3⟩
end Go.Proofs.YtcepjiglhlmgdaaDoor
