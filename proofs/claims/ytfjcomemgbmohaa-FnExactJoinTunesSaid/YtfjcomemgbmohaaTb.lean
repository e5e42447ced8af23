import Derived.Test.YtfjcomemgbmohaaCat
import Derived.Test.YtfjcomemgbmohaaMkt
import Derived.Test.YtfjcomemgbmohaaShf
import Derived.Test.YtfjcomemgbmohaaBkw
namespace Go.Proofs.Ytfjcomemgbmohaa
open Go.RowKit
theorem rangeB_ok {l : List (Int × Int)} (h : okB l = true) : rangeB l = true :=
  rangeB_yes l fun j hj => by
    have := ok_in h j hj
    simp only [noteB, decide_eq_true_eq]
    omega
theorem rangeB_append {l m : List (Int × Int)} (hl : rangeB l = true) (hm : rangeB m = true) : rangeB (l ++ m) = true := by
  simp only [rangeB, List.all_eq_true, List.mem_range] at hl hm ⊢
  intro k hk
  rw [List.length_append] at hk
  rcases Nat.lt_or_ge k l.length with h | h
  · have := hl k h
    simpa [nAt, nPi, List.getD, List.getElem?_append_left h] using this
  · have := hm (k - l.length) (by omega)
    simpa [nAt, nPi, List.getD, List.getElem?_append_right h] using this
theorem rangeB_ch {pf : Int → Int → Int × Int} {l : List (Int × Int)} (h : chO pf l l.length = true) : rangeB (chL pf l l.length) = true := by
  simp only [rangeB, chO, List.all_eq_true, List.mem_range, chL_len] at h ⊢
  intro k hk
  have e : (chL pf l l.length).getD k (0, 0) = pf (nAt l k) (nPi l k) := by simp [chL, List.getD, hk]
  have h1 := h k hk
  simp only [nAt, nPi] at e h1 ⊢
  rw [e]
  exact h1
theorem wf_range {l : List (Int × Int)} (h : rangeB l = true) : WF l := by
  intro k hk
  simp only [rangeB, List.all_eq_true, List.mem_range] at h
  have := h k hk
  simp only [noteB, decide_eq_true_eq] at this
  omega
theorem sortU_id {l : List (Int × Int)} (h : AscN l) : sortU l = l := by
  rw [← srtN_eq_sortU l l (h.imp fun {x y} h1 h2 => by subst h2; exact ltN_irr _ h1) fun _ => Iff.rfl, srtN_id l h]
theorem two_new (w : World) (x y : Value) (t : TypeId) : (w.alloc (.cells #[x, y] t)).cell? ⟨w.heap.size, 0, none⟩ = some x ∧ (w.alloc (.cells #[x, y] t)).cell? ⟨w.heap.size, 1, none⟩ = some y := by
  have h0 := cell_two_new' w x y t 0 x rfl
  have h1 := cell_two_new' w x y t 1 y rfl
  rw [Addr.add_lit] at h0 h1
  exact ⟨h0, h1⟩
/-- the codes of two tunes -/
def bothB (l m : List (Int × Int)) : Bool := okB l && okB m
def bcI (l m : List (Int × Int)) : Int := if bothB l m then 0 else 1
set_option maxRecDepth 20000 in
theorem l01Both_any (A : Option Addr) (c : Nat) (l : List (Int × Int)) (B : Option Addr) (d : Nat) (m : List (Int × Int)) (w : World) (hA : NA w A l) (hB : NA w B m) (hl : l.length ≤ 1048576) (hm : m.length ≤ 1048576) (hwl : WF l) (hwm : WF m) :
    Calls Try.prog 55 #[.slice A l.length c, .slice B m.length d] w (fun e w' => e = .returned (.int .i64 (bcI l m)) ∧ Below w.heap.size w w') := by
  have KO := l01Ok_any A c l w hA hl hwl
  cases ho : okB l
  · rw [ho] at KO
    have HX := hide (show bcI l m = 1 by simp [bcI, bothB, ho])
    clear ho
    go_enter Try.func55, Try.ntmps55
    go_wp2_with fail
    refine KO.mono ?_
    rintro e w1 ⟨rfl, hb1⟩
    go_wp2
    go_ret
    exact ⟨by rw [HX.out]; rfl, hb1⟩
  · rw [ho] at KO
    have KM : ∀ W, Below w.heap.size w W → Calls Try.prog 43 #[.slice B m.length d] W (Says (okB m) W) := fun W hW => l01Ok_any B d m W (hB.below hW) hm hwm
    cases h2 : okB m
    · rw [h2] at KM
      have HX := hide (show bcI l m = 1 by simp [bcI, bothB, h2])
      clear ho h2
      go_enter Try.func55, Try.ntmps55
      go_wp2_with fail
      refine KO.mono ?_
      rintro e w1 ⟨rfl, hb1⟩
      go_wp2_with fail
      refine (KM w1 hb1).mono ?_
      rintro e w2 ⟨rfl, hb2⟩
      go_wp2
      go_ret
      exact ⟨by rw [HX.out]; rfl, step_below hb2 hb1⟩
    · rw [h2] at KM
      have HX := hide (show bcI l m = 0 by simp [bcI, bothB, ho, h2])
      clear ho h2
      go_enter Try.func55, Try.ntmps55
      go_wp2_with fail
      refine KO.mono ?_
      rintro e w1 ⟨rfl, hb1⟩
      go_wp2_with fail
      refine (KM w1 hb1).mono ?_
      rintro e w2 ⟨rfl, hb2⟩
      go_wp2
      go_ret
      exact ⟨by rw [HX.out]; rfl, step_below hb2 hb1⟩
def togC (l m : List (Int × Int)) : Int := if bothB l m then mkC (l ++ m) else 1
def togV (l m : List (Int × Int)) : List (Int × Int) := if bothB l m then mkV (l ++ m) else []
theorem ok2_len {l m : List (Int × Int)} (h : bothB l m = true) : l.length ≤ 120 ∧ m.length ≤ 120 := by
  simp only [bothB, Bool.and_eq_true] at h
  exact ⟨ok_len h.1, ok_len h.2⟩
theorem togV_le (l m : List (Int × Int)) : (togV l m).length ≤ 1048576 := by
  unfold togV
  split
  · rename_i h
    have h1 := mkV_le (l ++ m)
    rw [List.length_append] at h1
    have := ok2_len h
    omega
  · simp
theorem tog_range {l m : List (Int × Int)} (h : bothB l m = true) : rangeB (l ++ m) = true := by
  simp only [bothB, Bool.and_eq_true] at h
  exact rangeB_append (rangeB_ok h.1) (rangeB_ok h.2)
end Go.Proofs.Ytfjcomemgbmohaa
