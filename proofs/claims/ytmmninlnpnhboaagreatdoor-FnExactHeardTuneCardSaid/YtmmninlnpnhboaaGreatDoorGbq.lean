import Derived.Test.YtmmninlnpnhboaaGreatDoorNts
import Derived.Test.YtmmninlnpnhboaaGreatDoorGbo
import Derived.Test.YtmmninlnpnhboaaGreatDoorMvb
import Derived.Test.YtmmninlnpnhboaaGreatDoorSru
import Derived.Test.YtmmninlnpnhboaaGreatDoorGbh
namespace Go.Proofs.YtmmninlnpnhboaaGreatDoor
open Go.RowKit
/-- the notes of a drum -/
def toL (l : List (Int × Int)) (d : Nat → Int) : List (Int × Int) := noL l (pinsL d)
def toC (s : Int) (l : List (Int × Int)) (d : Nat → Int) : Int := if askB s l d then mkC (toL l d) else 1
def toV (s : Int) (l : List (Int × Int)) (d : Nat → Int) : List (Int × Int) := if askB s l d then mkV (toL l d) else []
theorem toL_len (l : List (Int × Int)) (d : Nat → Int) : (toL l d).length ≤ 4000 := by
  have := pinsL_len d
  rw [toL, noL_len]
  exact this
theorem toV_len (s : Int) (l : List (Int × Int)) (d : Nat → Int) : (toV s l d).length ≤ 1048576 := by
  unfold toV
  split
  · have h1 := mkV_le (toL l d)
    have h2 := toL_len l d
    omega
  · simp
theorem toL_mem {S : Int} {l : List (Int × Int)} {d : Nat → Int} (hg : HG S l l.length) (hdr : drB S l.length d = true) (hd : DWF d) {x : Int × Int} (h : x ∈ toL l d) : (0 ≤ x.1 ∧ x.1 ≤ 199) ∧ (0 ≤ x.2 ∧ x.2 ≤ 47) := by
  unfold toL noL at h
  obtain ⟨p, hp, rfl⟩ := List.mem_map.1 h
  have h1 := (pinsT_mem (k := p.1) (t := p.2) hd 96 (Nat.le_refl _)).1 hp
  have h2 := pin_in hdr hd h1.1 h1.2.2
  have h3 := (hg.at h2.2).1
  dsimp only
  omega
theorem note_mem (l : List (Int × Int)) (j : Nat) (h : j < l.length) : (nAt l j, nPi l j) ∈ l := List.mem_of_getElem? (getN l j h)
theorem toL_range {S : Int} {l : List (Int × Int)} {d : Nat → Int} (hg : HG S l l.length) (hdr : drB S l.length d = true) (hd : DWF d) : rangeB (toL l d) = true := by
  refine rangeB_yes _ fun j hj => ?_
  have := toL_mem hg hdr hd (note_mem _ j hj)
  simp only [noteB, decide_eq_true_eq]
  exact this
theorem toL_wf {S : Int} {l : List (Int × Int)} {d : Nat → Int} (hg : HG S l l.length) (hdr : drB S l.length d = true) (hd : DWF d) : WF (toL l d) := by
  intro j hj
  have := toL_mem hg hdr hd (note_mem _ j hj)
  dsimp only at this
  omega
theorem to_all {S : Nat} {l : List (Int × Int)} {d : Nat → Int} (hdr : drB (S : Int) l.length d = true) (hd : DWF d) (hS : S ≤ 96) (hl : l.length ≤ 24) : gK (pinB d) l.length S = pinsL d :=
  g_all hd (fun _ _ => rfl) (fun k t hk hp => by have := pin_in hdr hd hk hp; omega) (by omega) (by omega)
set_option maxRecDepth 20000 in
set_option maxHeartbeats 8000000 in
theorem l02Tune_any (f g : Nat) (S : Nat) (A : Option Addr) (c : Nat) (l : List (Int × Int)) (d : Nat → Int) (w : World) (hF : FP w f S A l.length c) (hD : Dr w g 33 d) (hA : HA w A l) (hS : 2 ≤ S ∧ S ≤ 96) (hl : l.length ≤ 24) (hwf : HWF l) (hg : HG S l l.length) (hdr : drB (S : Int) l.length d = true) (hd : DWF d) :
    Calls Tryz.prog 45 #[.pointer (some ⟨f, 0, none⟩), .pointer (some ⟨g, 0, none⟩)] w (OwnT w (sortU (toL l d))) := by
  obtain ⟨i0, hi, hz0, hz1, hz2⟩ := info_parts info65
  have HE := hide (to_all hdr hd hS.2 hl)
  have HWT := hide (toL_wf hg hdr hd)
  have HS := hide hS
  have hal : Below w.heap.size w (w.alloc (.cells #[] 65)) := (Below.refl _ _).alloc (Nat.le_refl _) _
  have hE : (w.alloc (.cells #[] 65)).ownsRow w.heap.size 65 2 (.slice (some ⟨w.heap.size, 0, none⟩) 0 0) 0 [] := own_emptyT _ _ (Nat.le_refl _)
  clear hg hdr
  go_enter Tryz.func45, Tryz.ntmps45
  go_wp2_with fail
  go_loopw [5, 6] (fun v i wr => ∃ (k : Nat) (A1 : Option Addr) (q1 : Nat), k ≤ S ∧ v = .slice A1 (gK (pinB d) l.length k).length q1 ∧ i = .int .i64 k ∧ wr.ownsRow w.heap.size 65 2 (.slice A1 (gK (pinB d) l.length k).length q1) (gK (pinB d) l.length k).length (cellsOf (noL l (gK (pinB d) l.length k))) ∧ Below w.heap.size w wr)
    (fun _ i _ => S - (intOf i).toNat)
  case atStart => exact ⟨0, some ⟨w.heap.size, 0, none⟩, 0, Nat.zero_le _, rfl, rfl, hE, hal⟩
  case round =>
    clear hE hal
    obtain ⟨k, A1, q1, hk, rfl, rfl, hown, hb⟩ := hrel
    have F3 := hF.keep hb
    have e1 := F3.1
    have hwS : IntKind.i64.wrap (S : Int) = (S : Int) := IntWalk.i64_in _ (by omega)
    by_cases hlt : k < S
    · have hk1 : (k : Int) < (S : Int) := by omega
      have hk2 : decide ((k : Int) < (S : Int)) = true := decide_eq_true hk1
      rw [← gI_zero] at hown ⊢
      go_wp2_with fail
      go_loopw [5, 7] (fun v i wq => ∃ (t : Nat) (A1 : Option Addr) (q1 : Nat), t ≤ l.length ∧ v = .slice A1 (gI (pinB d) l.length k t).length q1 ∧ i = .int .i64 t ∧ wq.ownsRow w.heap.size 65 2 (.slice A1 (gI (pinB d) l.length k t).length q1) (gI (pinB d) l.length k t).length (cellsOf (noL l (gI (pinB d) l.length k t))) ∧ Below w.heap.size w wq)
        (fun _ i _ => l.length - (intOf i).toNat)
      case atStart => exact ⟨0, A1, q1, Nat.zero_le _, rfl, rfl, hown, hb⟩
      case round =>
        clear hown hb e1 F3
        obtain ⟨t, A1, q1, ht, rfl, rfl, hown, hb⟩ := hrel
        have hbs := hb.size
        have D4 := hD.keep hb
        have F4 := hF.keep hb
        have e1 := F4.2
        by_cases hlt2 : t < l.length
        · have hti : (t : Int) < (l.length : Int) := by omega
          have KP : ∀ v, pinB d k t = v → ∀ W, W = wr → Calls Tryz.prog 65 #[.pointer (some ⟨g, 0, none⟩), .int .i64 k, .int .i64 t] W fun e w' => e = .returned (.bool v) ∧ W = w' := fun v hv W hW => by
            subst hW
            rw [← hv]
            exact l02Pin_any _ k t d _ D4 (by have := HS.out; omega) (by omega) hd
          cases hp : pinB d k t
          · have KP' := KP false hp _ rfl
            have HGI := hide (gI_no (n := l.length) (P := pinB d) hp)
            clear hp KP
            go_wp2_with (go_at_call 65; with_reducible refine KP'.mono ?_; rintro e w' ⟨rfl, rfl⟩)
            go_roundw
            case rel => exact ⟨t + 1, A1, q1, hlt2, by rw [HGI.out], by go_num, by rw [HGI.out]; exact hown, hb⟩
            case measure => simp [intOf]; omega
          · have KP' := KP true hp _ rfl
            have HGI := hide (gI_yes (n := l.length) (P := pinB d) hp)
            have hml := gI_len (pinB d) l.length k t
            have hml2 : (gI (pinB d) l.length k t).length ≤ 4000 := by
              have := HS.out
              have h1 : k * l.length ≤ 96 * 24 := Nat.mul_le_mul (by omega) hl
              omega
            obtain ⟨m, hm⟩ : ∃ m, m = gI (pinB d) l.length k t := ⟨_, rfl⟩
            rw [← hm] at hown HGI hml2 ⊢
            have hwk : IntKind.i16.wrap (k : Int) = (k : Int) := IntWalk.i16_in _ (by have := HS.out; omega)
            obtain ⟨b, o, hAe, hbb, c1, c2⟩ := (hA.below hb) t hlt2
            rw [hAe] at e1
            obtain ⟨p, hpe⟩ : ∃ p, p = hPi l t := ⟨_, rfl⟩
            rw [← hpe] at c1
            have HSN := hide (show noL l (m ++ [(k, t)]) = noL l m ++ [((k : Int), p)] by rw [noL_snoc, hpe])
            have own4 := hown.alloc (.cells #[.int .i16 (k : Int), .int .i8 p] 65)
            have hbA := hb.alloc hbs (.cells #[.int .i16 (k : Int), .int .i8 p] 65)
            have hnew := cell_two_newN wr (.int .i16 (k : Int)) (.int .i8 p) 65
            have hol := fun j hj => (hown.lt j hj).1
            clear hp KP hown hm hml D4 hpe hAe c2 hbb
            go_wp2_with (first | (go_at_call 65; with_reducible refine KP'.mono ?_; rintro e w' ⟨rfl, rfl⟩) | (at_builtin; refine wpList_append_own _ rfl _ _ 40 rfl w.heap.size 65 i0 (.agg #[.int .i16 0, .int .i8 0]) 2 4 Tryz.underlying40 hi hz0 hz1 hz2 rfl (by decide) _ _ _ rfl own4 ⟨wr.heap.size, 0, none⟩ 1 1 [.int .i16 (k : Int), .int .i8 p] rfl rfl hnew (fun x hx => by simp at hx; rcases hx with rfl | rfl <;> rfl) (by unfold maxLen; omega) (by omega) (by simp; omega) ?_; intro v6 w6 hown6 hgr6 hnil6; obtain ⟨A6, c6, rfl⟩ := own_shapeN hown6; have hb6 := hbA.grown hgr6 hbA.size hol; clear hgr6 hnil6))
            go_roundw
            case rel => exact ⟨t + 1, A6, c6, hlt2, by rw [HGI.out, List.length_append]; rfl, by go_num, by rw [HGI.out, List.length_append, HSN.out, cellsOf_append]; exact hown6, hb6⟩
            case measure => simp [intOf]; omega
        · have HT2 := hide (show t = l.length by omega)
          have hni : ¬ (t : Int) < (l.length : Int) := by omega
          have HGF := hide (gI_full (pinB d) l.length k)
          clear ht hlt2
          go_wp2
          go_roundw
          case rel => exact ⟨k + 1, A1, q1, hlt, by rw [← HGF.out, ← HT2.out], by go_num, by rw [← HGF.out, ← HT2.out]; rw [HT2.out] at hown ⊢; exact hown, hb⟩
          case measure => simp [intOf]; omega
    · have HK := hide (show k = S by omega)
      have hni : ¬ (k : Int) < (S : Int) := by omega
      have hni2 : decide ((k : Int) < (S : Int)) = false := by simpa using hni
      have hgl : gK (pinB d) l.length k = pinsL d := by rw [HK.out]; exact HE.out
      rw [hgl] at hown ⊢
      have hll : (pinsL d).length = (toL l d).length := (noL_len l _).symm
      rw [hll] at hown ⊢
      have KS := hide (l01Sorted_any A1 q1 (toL l d) wr (NA.of_own hown) (by have := toL_len l d; omega) HWT.out)
      obtain ⟨N, hN⟩ : ∃ N, N = toL l d := ⟨_, rfl⟩
      obtain ⟨M, hM⟩ : ∃ M, M = sortU (toL l d) := ⟨_, rfl⟩
      rw [← hM] at KS ⊢
      rw [← hN] at KS ⊢
      have HM := hide hM
      clear hgl hll hN hM hown hk hlt
      go_wp2_with fail
      refine KS.out.mono ?_
      rintro e w5 ⟨C5, q5, rfl, own5, hb5⟩
      go_wp2
      go_ret
      obtain rfl := HM.out
      exact ⟨C5, q5, rfl, own_base own5 hb.size, step_below hb5 hb⟩
set_option maxRecDepth 20000 in
set_option maxHeartbeats 1000000 in
theorem implTuneOf_any (s : Int) (A : Option Addr) (c : Nat) (l : List (Int × Int)) (d : Nat → Int) (w : World) (hA : HA w A l) (hn : l.length ≤ 1048576) (hwf : HWF l) (hs : -32768 ≤ s ∧ s ≤ 32767) (hd : DWF d) (hT : TabW w) :
    Calls Tryz.prog 46 #[.agg #[.int .i16 s, .slice A l.length c], .agg (da d)] w (OwnN w (toV s l d) (toC s l d)) := by
  have hb0 : Below w.heap.size w ((w.alloc (.cells #[.int .i16 s, .slice A l.length c] 38)).alloc (.cells (da d) 33)) := ((Below.refl _ _).alloc (Nat.le_refl _) _).alloc (by simp) _
  have D0 : Dr ((w.alloc (.cells #[.int .i16 s, .slice A l.length c] 38)).alloc (.cells (da d) 33)) (w.heap.size + 1) 33 d := heap_new' _ _ _ (by simp)
  have HR0 := hide D0.range
  go_enter Tryz.func46, Tryz.ntmps46
  go_wp2_with (first | (with_reducible refine wpList_load_da rfl 33 (.tmp 3) rfl (w.heap.size + 1) 0 rfl d _ HR0.out Tryz.underlying33 rfl (dInfo d) ?_) | (with_reducible refine wpList_build1 rfl (.tmp 8) rfl d rfl ?_) | (with_reducible refine wpList_build1 rfl (.tmp 9) rfl d rfl ?_) | (with_reducible refine wpList_build1 rfl (.tmp 10) rfl d rfl ?_) | (with_reducible refine wpList_build1 rfl (.tmp 11) rfl d rfl ?_))
  refine (machine1_any s A c l d _ (hA.below hb0) hn hwf hs hd _ (by simp)).mono ?_
  rintro e w2 ⟨rfl, hb2⟩
  have hx0 : Below ((w.alloc (.cells #[.int .i16 s, .slice A l.length c] 38)).alloc (.cells (da d) 33)).heap.size ((w.alloc (.cells #[.int .i16 s, .slice A l.length c] 38)).alloc (.cells (da d) 33)) (((w.alloc (.cells #[.int .i16 s, .slice A l.length c] 38)).alloc (.cells (da d) 33)).alloc (.cells (da d) 33)) := (Below.refl _ _).alloc (Nat.le_refl _) _
  have b2 := step_below hb2 (hb0.alloc hb0.size (.cells (da d) 33))
  have hy : Below w2.heap.size w2 (w2.alloc (.cells #[.int .i64 s, .slice A l.length c] 100)) := (Below.refl _ _).alloc (Nat.le_refl _) _
  have b3 := b2.alloc b2.size (.cells #[.int .i64 s, .slice A l.length c] 100)
  have D3 := ((D0.keep hx0).keep hb2).keep hy
  cases ha : askB s l d
  · have HX := hide (show toV s l d = [] by simp [toV, ha])
    have HC := hide (show toC s l d = 1 by simp [toC, ha])
    clear ha
    go_wp2
    go_ret2
    rw [HX.out, HC.out]
    exact ownN_nil none 0 1 ⟨rfl, Or.inl ⟨rfl, rfl⟩⟩ b3
  have hfa := ask_all ha
  obtain ⟨S, hSs⟩ : ∃ S : Nat, s = (S : Int) := ⟨s.toNat, by omega⟩
  have hS2 : 2 ≤ S ∧ S ≤ 96 := by omega
  have hSn : s.toNat = S := by omega
  have HX := hide (show toV s l d = mkV (toL l d) by simp [toV, ha])
  have HC := hide (show toC s l d = mkC (toL l d) by simp [toC, ha])
  have HWT := hide (toL_wf hfa.2.2.1 hfa.2.2.2 hd)
  subst hSs
  have hl24 := hfa.2.1.2
  have HG1 := hide hfa.2.2.1
  have HV := hide hfa.2.2.2
  clear ha hfa hSn
  have HR3 := hide D3.range
  go_wp2_with (with_reducible refine wpList_load_da rfl 33 (.tmp 3) rfl (w.heap.size + 1) 0 rfl d _ HR3.out Tryz.underlying33 rfl (dInfo d) ?_)
  refine (notes_any S A c l d _ (hA.below b3) hS2 hl24 hwf HV.out hd (hT.keep b3)).mono ?_
  rintro e w4 ⟨C4, q4, rfl, own4, hb4⟩
  have b4 := step_below hb4 b3
  have KM := hide (implMakeTune_any C4 q4 (toL l d) w4 (NA.of_own own4) (by have := toL_len l d; omega) HWT.out)
  have hle : (noL l (pinsL d)).length = (toL l d).length := rfl
  rw [hle]
  obtain ⟨V, hV⟩ : ∃ V, V = mkV (toL l d) := ⟨_, rfl⟩
  obtain ⟨C, hC⟩ : ∃ C, C = mkC (toL l d) := ⟨_, rfl⟩
  rw [← hV] at KM HX
  rw [← hC] at KM HC
  obtain ⟨N, hN⟩ : ∃ N, N = toL l d := ⟨_, rfl⟩
  rw [← hN] at KM ⊢
  clear hV hC hN hle own4 HWT
  go_wp2_with fail
  refine KM.out.mono ?_
  rintro e w5 ⟨A5, c5, rfl, own5, hb5⟩
  go_wp2
  go_ret2
  rw [HX.out, HC.out]
  exact ⟨A5, c5, rfl, own_base own5 b4.size, step_below hb5 b4⟩
end Go.Proofs.YtmmninlnpnhboaaGreatDoor
namespace Go.Proofs.YtmmninlnpnhboaaGreatDoor
open Go.RowKit

def ipB (s : Int) (l : List (Int × Int)) (d : Nat → Int) : Bool := askB s l d && decide ((clsF s.toNat d l (pinsL d)).length = 0)
theorem pins_zero : pinsL (fun _ => 0) = [] := by
  have : ∀ n, pinsT (fun _ => 0) n = [] := by
    intro n
    induction n with
    | zero => rfl
    | succ n ih => rw [pinsT_succ, ih]; simp [bitsL_zero]
  exact this 96
theorem same_empty (S : Nat) (d : Nat → Int) (l : List (Int × Int)) (hd : DWF d) : sameD (clD S d l) (fun _ => 0) = decide ((clsF S d l (pinsL d)).length = 0) := by
  rw [Bool.eq_iff_iff, decide_eq_true_eq]
  constructor
  · intro h
    have h1 := (sameD_iff _ _).1 h
    have h2 : pinsL (clD S d l) = pinsL (fun _ => 0) := by
      have : ∀ n, n ≤ 96 → pinsT (clD S d l) n = pinsT (fun _ => 0) n := by
        intro n
        induction n with
        | zero => intro _; rfl
        | succ n ih => intro hn; rw [pinsT_succ, pinsT_succ, ih (by omega), da_inj h1 n (by omega)]
      exact this 96 (Nat.le_refl _)
    rw [← clD_pins S d l hd, h2, pins_zero]; rfl
  · intro h
    have h1 : clsF S d l (pinsL d) = [] := List.eq_nil_of_length_eq_zero h
    rw [sameD_iff]
    unfold clD
    rw [h1]
    rfl

end Go.Proofs.YtmmninlnpnhboaaGreatDoor
