import Derived.Test.YtnngbnhdcknfnaaPsh
namespace Go.Proofs.Ytnngbnhdcknfnaa
open Go.RowKit

def ncP (o : Nat → Int) (Q : Nat) (x : Int) (j : Nat) : Bool := decide (o ((Q + 1 + j) % 48) = x)
def ncJ (o : Nat → Int) (Q : Nat) (x : Int) : Option Nat := (List.range 48).find? (ncP o Q x)
def ncC (s : Int) (l m : List (Int × Int)) (o : Nat → Int) (q x : Int) : Int := if prgB s l m o then (if inB q 0 47 && inB x 0 ((m.length : Int) - 1) then (if (ncJ o q.toNat x).isSome then 0 else 6) else 2) else 1
def ncV (s : Int) (l m : List (Int × Int)) (o : Nat → Int) (q x : Int) : Int := if ncC s l m o q x = 0 then (match ncJ o q.toNat x with | some j => (((q.toNat + 1 + j) % 48 : Nat) : Int) | none => 0) else 0
theorem find_yes {P : Nat → Bool} {n k : Nat} (h : SG (fun j => !P j) k) (hk : k < n) (hp : P k = true) : (List.range n).find? P = some k := by
  rw [List.find?_range_eq_some]
  exact ⟨hp, List.mem_range.2 hk, h⟩
theorem find_no {P : Nat → Bool} {n : Nat} (h : SG (fun j => !P j) n) : (List.range n).find? P = none := by
  rw [List.find?_eq_none]
  intro j hj hp
  have := h j (List.mem_range.1 hj)
  simp [hp] at this

set_option maxRecDepth 20000 in
set_option maxHeartbeats 2000000 in
theorem specNextChime_any (s : Int) (A : Option Addr) (c : Nat) (l : List (Int × Int)) (B : Option Addr) (d : Nat) (m : List (Int × Int)) (o : Nat → Int) (q x : Int) (w : World) (hA : HA w A l) (hn : l.length ≤ 1048576) (hwf : HWF l) (hs : -32768 ≤ s ∧ s ≤ 32767) (hB : SecA w B m) (hm : m.length ≤ 1048576) (hswf : SWF m) (howf : OWF o) :
    Calls Try.prog 28 #[.agg #[.int .i16 s, .slice A l.length c], .agg (prA B m.length d o), .int .i64 q, .int .i64 x] w (Two (ncV s l m o q x) (ncC s l m o q x) w) := by
  go_enter Try.func28, Try.ntmps28
  go_upto_region 1 with fail
  obtain ⟨X, hX⟩ : ∃ X, X = (w.alloc (.cells #[.int .i16 s, .slice A l.length c] 36)).alloc (.cells (prA B m.length d o) 40) := ⟨_, rfl⟩
  have hb0 : Below w.heap.size w X := by rw [hX]; exact ((Below.refl _ _).alloc (Nat.le_refl _) _).alloc (by simp) _
  have F0 : FP X w.heap.size s A l.length c := by
    have h : Bk X w.heap.size 36 #[.int .i16 s, .slice A l.length c] := by rw [hX]; exact (Bk.new _ _ _ rfl).old _
    exact ⟨h.cell rfl, h.cell rfl⟩
  have P0 : Bk X (w.heap.size + 1) 40 (prA B m.length d o) := by rw [hX]; exact Bk.new _ _ _ (by simp)
  rw [← hX]
  clear hX
  go_wp2_with fail
  refine (l04Ok_any w.heap.size (w.heap.size + 1) s A c l B d m o X F0 (hA.below hb0) hn hwf hs P0 (hB.below hb0) hm hswf howf).mono ?_
  rintro e w1 ⟨rfl, hb1⟩
  have b1 := step_below hb1 hb0
  have F1 := F0.keep hb1
  have P1 := P0.keep hb1
  have A1 := hA.below b1
  have B1 := hB.below b1
  cases hp : prgB s l m o
  · have hcc : ncC s l m o q x = 1 := by simp [ncC, hp]
    have HX := hide hcc
    have HY := hide (show ncV s l m o q x = 0 by simp [ncV, hcc])
    clear hcc hp
    go_wp2
    go_ret2
    exact ⟨by rw [HX.out, HY.out]; rfl, b1⟩
  have HP := hide hp
  cases h1 : inB q 0 47
  · have K1 : ∀ W, Calls Try.prog 66 #[.int .i64 q] W fun e w' => e = .returned (.bool false) ∧ W = w' := fun W => by rw [← h1]; exact l04Quarter_any _ W
    have hcc : ncC s l m o q x = 2 := by simp [ncC, hp, h1]
    have HX := hide hcc
    have HY := hide (show ncV s l m o q x = 0 by simp [ncV, hcc])
    clear hcc hp h1
    go_wp2_with (go_at_call 66; refine (K1 _).mono ?_; rintro e w' ⟨rfl, rfl⟩)
    go_ret2
    exact ⟨by rw [HX.out, HY.out]; rfl, b1⟩
  have K1 : ∀ W, Calls Try.prog 66 #[.int .i64 q] W fun e w' => e = .returned (.bool true) ∧ W = w' := fun W => by rw [← h1]; exact l04Quarter_any _ W
  have c0 := P1.slice
  cases h2 : inB x 0 ((m.length : Int) - 1)
  · have K2 : ∀ W, Calls Try.prog 61 #[.int .i64 x, .int .i64 0, .int .i64 ((m.length : Int) - 1)] W fun e w' => e = .returned (.bool false) ∧ W = w' := fun W => by rw [← h2]; exact l00In_any _ _ _ W
    have hcc : ncC s l m o q x = 2 := by simp [ncC, hp, h1, h2]
    have HX := hide hcc
    have HY := hide (show ncV s l m o q x = 0 by simp [ncV, hcc])
    clear hcc hp h1 h2
    go_wp2_with (first | (go_at_call 66; refine (K1 _).mono ?_; rintro e w' ⟨rfl, rfl⟩) | (go_at_call 61; refine (K2 _).mono ?_; rintro e w' ⟨rfl, rfl⟩))
    go_ret2
    exact ⟨by rw [HX.out, HY.out]; rfl, b1⟩
  have K2 : ∀ W, Calls Try.prog 61 #[.int .i64 x, .int .i64 0, .int .i64 ((m.length : Int) - 1)] W fun e w' => e = .returned (.bool true) ∧ W = w' := fun W => by rw [← h2]; exact l00In_any _ _ _ W
  obtain ⟨Q, hQ⟩ : ∃ Q : Nat, q = (Q : Int) := ⟨q.toNat, by simp [inB] at h1; omega⟩
  subst hQ
  have hQ47 : Q ≤ 47 := by simp [inB] at h1; omega
  have hcc : ncC s l m o Q x = if (ncJ o Q x).isSome then 0 else 6 := by simp [ncC, hp, h1, h2]
  have HX := hide hcc
  have HY := hide (show ncV s l m o Q x = match ncJ o Q x with | some j => (((Q + 1 + j) % 48 : Nat) : Int) | none => 0 by
    unfold ncV; rw [hcc]
    cases h : ncJ o Q x <;> simp [h])
  clear hcc hp h1 h2
  go_wp2_with (first | (go_at_call 66; refine (K1 _).mono ?_; rintro e w' ⟨rfl, rfl⟩) | (go_at_call 61; refine (K2 _).mono ?_; rintro e w' ⟨rfl, rfl⟩))
  clear c0
  go_loop [10] (fun i => ∃ k : Nat, k ≤ 48 ∧ i = .int .i64 ((k : Int) + 1) ∧ SG (fun j => !ncP o Q x j) k)
    (fun i => 49 - (intOf i).toNat)
  case atStart => exact ⟨0, Nat.zero_le _, rfl, SG_zero _⟩
  case round =>
    obtain ⟨k, hk, rfl, hG⟩ := hrel
    have HG := hide hG
    clear hG
    by_cases hlt : k < 48
    · obtain ⟨ix, hix⟩ : ∃ ix, ix = (Q + 1 + k) % 48 := ⟨_, rfl⟩
      have hix48 : ix < 48 := by rw [hix]; exact Nat.mod_lt _ (by omega)
      have hr : ((Q : Int) + ((k : Int) + 1)) % 48 = (ix : Int) := by omega
      have hr2 : ((Q : Int) + ((k : Int) + 1)).tmod 48 = (ix : Int) := by rw [Int.tmod_eq_emod_of_nonneg (by omega)]; exact hr
      have hlt1 : decide ((k : Int) + 1 ≤ 48) = true := by simp; omega
      have c1 := P1.order ix _ (o48_get o ix hix48)
      obtain ⟨v1, v2⟩ := howf ix hix48
      have hii : (ix : Int) < 48 := by omega
      by_cases he : o ix = x
      · have q1 : (o ix == x) = true := by simpa using he
        have HF := hide (find_yes (P := ncP o Q x) HG.out hlt (by simp [ncP, ← hix, he]))
        have HI := hide hix
        clear he hix
        go_wp2
        go_ret2
        exact ⟨by rw [HX.out, HY.out, show ncJ o Q x = some k from HF.out, HI.out]; rfl, b1⟩
      · have q1 : (o ix == x) = false := by simpa using he
        have HF := hide (show (!ncP o Q x k) = true by simp [ncP, ← hix, he])
        clear he hix
        go_wp2
        go_round
        case rel => exact ⟨k + 1, hlt, by go_num, SG_succ HG.out HF.out⟩
        case measure => simp [intOf]; omega
    · obtain rfl : k = 48 := by omega
      have HF := hide (find_no HG.out)
      go_wp2
      go_ret2
      exact ⟨by rw [HX.out, HY.out, show ncJ o Q x = none from HF.out]; rfl, b1⟩

set_option maxRecDepth 20000 in
set_option maxHeartbeats 2000000 in
theorem implNextChime_any (s : Int) (A : Option Addr) (c : Nat) (l : List (Int × Int)) (B : Option Addr) (d : Nat) (m : List (Int × Int)) (o : Nat → Int) (q x : Int) (w : World) (hA : HA w A l) (hn : l.length ≤ 1048576) (hwf : HWF l) (hs : -32768 ≤ s ∧ s ≤ 32767) (hB : SecA w B m) (hm : m.length ≤ 1048576) (hswf : SWF m) (howf : OWF o) :
    Calls Try.prog 29 #[.agg #[.int .i16 s, .slice A l.length c], .agg (prA B m.length d o), .int .i64 q, .int .i64 x] w (Two (ncV s l m o q x) (ncC s l m o q x) w) := by
  have hz := zeroPln
  go_enter Try.func29, Try.ntmps29
  go_upto_region 1 with fail
  obtain ⟨X, hX⟩ : ∃ X, X = (w.alloc (.cells #[.int .i16 s, .slice A l.length c] 36)).alloc (.cells (prA B m.length d o) 40) := ⟨_, rfl⟩
  have hb0 : Below w.heap.size w X := by rw [hX]; exact ((Below.refl _ _).alloc (Nat.le_refl _) _).alloc (by simp) _
  have F0 : FP X w.heap.size s A l.length c := by
    have h : Bk X w.heap.size 36 #[.int .i16 s, .slice A l.length c] := by rw [hX]; exact (Bk.new _ _ _ rfl).old _
    exact ⟨h.cell rfl, h.cell rfl⟩
  have P0 : Bk X (w.heap.size + 1) 40 (prA B m.length d o) := by rw [hX]; exact Bk.new _ _ _ (by simp)
  rw [← hX]
  clear hX
  have f0 := F0.1
  have f1 := F0.2
  have HP := hide P0.range49
  obtain ⟨b, hb⟩ : ∃ b, prgB s l m o = b := ⟨_, rfl⟩
  go_wp2_with (first | (with_reducible refine wpList_load_pr rfl 40 (.tmp 5) rfl (w.heap.size + 1) 0 rfl _ _ _ _ _ HP.out Try.underlying40 rfl (pInfo _ _ _ _) ?_))
  refine (planFor0_any s A c l B d m o _ (hA.below hb0) hn hwf hs (hB.below hb0) hm hswf howf b hb).mono ?_
  rintro e w1 ⟨rfl, hb1⟩
  have b1 := step_below hb1 hb0
  clear f0 f1 HP
  have hzi : (Try.prog.info? 84).map (·.size) = some zpl.size := by rw [zpl_eq]; exact plInfo
  have hzo : zpl.all (·.oneCell') = true := by rw [zpl_eq]; exact plA_one
  cases b
  · simp only [Bool.false_eq_true, if_false]
    have hcc : ncC s l m o q x = 1 := by simp [ncC, hb]
    have HX := hide hcc
    have HY := hide (show ncV s l m o q x = 0 by simp [ncV, hcc])
    clear hcc hb
    go_wp2_with (with_reducible refine wpList_store_newG rfl 84 (.tmp 10) (.tmp 18) rfl zpl rfl rfl 84 _ hzi rfl hzo ?_)
    go_ret2
    exact ⟨by rw [HX.out, HY.out]; rfl, b1.alloc b1.size _⟩
  simp only [if_true]
  have hal : Below w1.heap.size w1 (w1.alloc (.cells (plA s A l.length c B m.length d o) 84)) := (Below.refl _ _).alloc (Nat.le_refl _) _
  have Q0 : Bk (w1.alloc (.cells (plA s A l.length c B m.length d o) 84)) w1.heap.size 84 (plA s A l.length c B m.length d o) := Bk.new _ _ _ rfl
  have b2 := step_below hal b1
  go_upto_region 2 with (with_reducible refine wpList_store_newG rfl 84 (.tmp 10) (.tmp 18) rfl (plA s A l.length c B m.length d o) rfl rfl 84 _ plInfo (by rw [zpl_eq, plA_size, plA_size]) plA_one ?_)
  obtain ⟨Y, hY⟩ : ∃ Y, Y = w1.alloc (.cells (plA s A l.length c B m.length d o) 84) := ⟨_, rfl⟩
  rw [← hY] at hal Q0 b2 ⊢
  clear hY hz hzi hzo hb1 b1
  have A2 := hA.below b2
  have B2 := hB.below b2
  have HQ := hide Q0.plRange
  cases h1 : inB q 0 47
  · have K1 : ∀ W, Calls Try.prog 67 #[.int .i64 q] W fun e w' => e = .returned (.bool false) ∧ W = w' := fun W => by rw [← h1]; exact isQuarter_any _ W
    have hcc : ncC s l m o q x = 2 := by simp [ncC, hb, h1]
    have HX := hide hcc
    have HY := hide (show ncV s l m o q x = 0 by simp [ncV, hcc])
    clear hcc hb h1
    go_wp2_with (go_at_call 67; refine (K1 _).mono ?_; rintro e w' ⟨rfl, rfl⟩)
    go_ret2
    exact ⟨by rw [HX.out, HY.out]; rfl, b2⟩
  have K1 : ∀ W, Calls Try.prog 67 #[.int .i64 q] W fun e w' => e = .returned (.bool true) ∧ W = w' := fun W => by rw [← h1]; exact isQuarter_any _ W
  cases h2 : inB x 0 ((m.length : Int) - 1)
  · have K2 : ∀ W, Calls Try.prog 68 #[.agg (plA s A l.length c B m.length d o), .int .i64 x] W (Says false W) := fun W => by rw [← h2]; exact hasSection_any s A _ c B _ d o x hm W
    have hcc : ncC s l m o q x = 2 := by simp [ncC, hb, h1, h2]
    have HX := hide hcc
    have HY := hide (show ncV s l m o q x = 0 by simp [ncV, hcc])
    clear hcc hb h1 h2
    go_wp2_with (first | (go_at_call 67; refine (K1 _).mono ?_; rintro e w' ⟨rfl, rfl⟩) | (with_reducible refine wpList_want_pl rfl (.tmp 10) rfl w1.heap.size 0 rfl _ _ _ _ _ _ _ _ HQ.out ?_) | (go_at_call 68; refine (K2 _).mono ?_; rintro e w3 ⟨rfl, hb3⟩))
    go_ret2
    exact ⟨by rw [HX.out, HY.out]; rfl, step_below hb3 b2⟩
  have K2 : ∀ W, Calls Try.prog 68 #[.agg (plA s A l.length c B m.length d o), .int .i64 x] W (Says true W) := fun W => by rw [← h2]; exact hasSection_any s A _ c B _ d o x hm W
  obtain ⟨Q, hQ⟩ : ∃ Q : Nat, q = (Q : Int) := ⟨q.toNat, by simp [inB] at h1; omega⟩
  subst hQ
  have hQ47 : Q ≤ 47 := by simp [inB] at h1; omega
  have hcc : ncC s l m o Q x = if (ncJ o Q x).isSome then 0 else 6 := by simp [ncC, hb, h1, h2]
  have HX := hide hcc
  have HY := hide (show ncV s l m o Q x = match ncJ o Q x with | some j => (((Q + 1 + j) % 48 : Nat) : Int) | none => 0 by
    unfold ncV; rw [hcc]
    cases h : ncJ o Q x <;> simp [h])
  clear hcc hb h1 h2
  go_wp2_with (first | (go_at_call 67; refine (K1 _).mono ?_; rintro e w' ⟨rfl, rfl⟩) | (with_reducible refine wpList_want_pl rfl (.tmp 10) rfl w1.heap.size 0 rfl _ _ _ _ _ _ _ _ HQ.out ?_) | (go_at_call 68; refine (K2 _).mono ?_; rintro e w3 ⟨rfl, hb3⟩))
  have Q3 := Q0.keep hb3
  have b3 := step_below hb3 b2
  go_loop [32] (fun i => ∃ k : Nat, k ≤ 48 ∧ i = .int .i64 k ∧ SG (fun j => !ncP o Q x j) k)
    (fun i => 48 - (intOf i).toNat)
  case atStart => exact ⟨0, Nat.zero_le _, rfl, SG_zero _⟩
  case round =>
    obtain ⟨k, hk, rfl, hG⟩ := hrel
    have HG := hide hG
    clear hG
    by_cases hlt : k < 48
    · obtain ⟨ix, hix⟩ : ∃ ix, ix = (Q + 1 + k) % 48 := ⟨_, rfl⟩
      have hix48 : ix < 48 := by rw [hix]; exact Nat.mod_lt _ (by omega)
      have hr : ((Q : Int) + 1 + (k : Int)) % 48 = (ix : Int) := by omega
      have hr2 : ((Q : Int) + 1 + (k : Int)).tmod 48 = (ix : Int) := by rw [Int.tmod_eq_emod_of_nonneg (by omega)]; exact hr
      have c1 := Q3.plOrd ix _ (o48_get o ix hix48)
      obtain ⟨v1, v2⟩ := howf ix hix48
      have hii : (ix : Int) < 48 := by omega
      by_cases he : o ix = x
      · have q1 : (o ix == x) = true := by simpa using he
        have HF := hide (find_yes (P := ncP o Q x) HG.out hlt (by simp [ncP, ← hix, he]))
        have HI := hide hix
        clear he hix
        go_wp2
        go_ret2
        exact ⟨by rw [HX.out, HY.out, show ncJ o Q x = some k from HF.out, HI.out]; rfl, b3⟩
      · have q1 : (o ix == x) = false := by simpa using he
        have HF := hide (show (!ncP o Q x k) = true by simp [ncP, ← hix, he])
        clear he hix
        go_wp2
        go_round
        case rel => exact ⟨k + 1, hlt, by go_num, SG_succ HG.out HF.out⟩
        case measure => simp [intOf]; omega
    · obtain rfl : k = 48 := by omega
      have HF := hide (find_no HG.out)
      go_wp2
      go_ret2
      exact ⟨by rw [HX.out, HY.out, show ncJ o Q x = none from HF.out]; rfl, b3⟩
end Go.Proofs.Ytnngbnhdcknfnaa
