import Derived.Test.YtehmkablandefaaGreatDoorGaq
namespace Go.Proofs.YtehmkablandefaaGreatDoor
open Go.RowKit

def noteB (a p : Int) : Bool := decide ((0 ≤ a ∧ a ≤ 199) ∧ (0 ≤ p ∧ p ≤ 47))
def befB (a p b q : Int) : Bool := decide (a < b ∨ (a = b ∧ p < q))

theorem l01Note_any (a p : Int) (ha : -32768 ≤ a ∧ a ≤ 32767) (hp : -128 ≤ p ∧ p ≤ 127) (w : World) :
    Calls Tryz.prog 74 #[.agg #[.int .i16 a, .int .i8 p]] w fun e w' => e = .returned (.bool (noteB a p)) ∧ Below w.heap.size w w' := by
  obtain ⟨ha1, ha2⟩ := ha
  obtain ⟨hp1, hp2⟩ := hp
  go_enter Tryz.func74, Tryz.ntmps74
  go_wp2_with (go_at_call 27; refine (l00In_any _ _ _ _).mono ?_; rintro e w' ⟨rfl, rfl⟩)
  all_goals go_ret
  all_goals exact ⟨ret_bool (by simp_all [inB, noteB] <;> omega), by repeat (first | exact Below.refl _ _ | refine Below.alloc ?_ (by simp <;> omega) _)⟩
theorem l01Before_any (a p b q : Int) (w : World) :
    Calls Tryz.prog 75 #[.agg #[.int .i16 a, .int .i8 p], .agg #[.int .i16 b, .int .i8 q]] w fun e w' => e = .returned (.bool (befB a p b q)) ∧ Below w.heap.size w w' := by
  go_enter Tryz.func75, Tryz.ntmps75
  go_wp2
  all_goals go_ret
  all_goals exact ⟨ret_bool (by simp_all [befB] <;> omega), by repeat (first | exact Below.refl _ _ | refine Below.alloc ?_ (by simp <;> omega) _)⟩

def WF (l : List (Int × Int)) : Prop := ∀ k, k < l.length → (-32768 ≤ nAt l k ∧ nAt l k ≤ 32767) ∧ (-128 ≤ nPi l k ∧ nPi l k ≤ 127)
/-- the note at j is in range, and behind the one before -/
def good (l : List (Int × Int)) (j : Nat) : Bool := noteB (nAt l j) (nPi l j) && (decide (j = 0) || befB (nAt l (j - 1)) (nPi l (j - 1)) (nAt l j) (nPi l j))
def Good (l : List (Int × Int)) (k : Nat) : Prop := ∀ j, j < k → good l j = true
def okB (l : List (Int × Int)) : Bool := (List.range l.length).all (good l) && decide (l.length ≤ 120)
theorem okB_yes (l : List (Int × Int)) (h : Good l l.length) : okB l = decide (l.length ≤ 120) := by
  have : (List.range l.length).all (good l) = true := by simp only [List.all_eq_true, List.mem_range]; exact h
  simp [okB, this]
theorem okB_no (l : List (Int × Int)) (k : Nat) (hk : k < l.length) (h : good l k = false) : okB l = false := by
  have : (List.range l.length).all (good l) = false := by
    rw [List.all_eq_false]
    exact ⟨k, List.mem_range.2 hk, by simp [h]⟩
  simp [okB, this]
theorem Good_succ (l : List (Int × Int)) (k : Nat) (h : Good l k) (h' : good l k = true) : Good l (k + 1) := fun j hj => by
  rcases Nat.lt_or_ge j k with h1 | h1
  · exact h j h1
  · rw [show j = k by omega]; exact h'

set_option maxHeartbeats 1000000 in
theorem l01Ok_any (A : Option Addr) (c : Nat) (l : List (Int × Int)) (w : World) (hA : NA w A l) (hn : l.length ≤ 1048576) (hwf : WF l) :
    Calls Tryz.prog 49 #[.slice A l.length c] w (Says (okB l) w) := by
  go_enter Tryz.func49, Tryz.ntmps49
  go_wp2_with fail
  go_loopw [3] (fun i wr => ∃ k : Nat, k ≤ l.length ∧ i = .int .i64 k ∧ Good l k ∧ Below w.heap.size w wr)
    (fun i _ => l.length - (intOf i).toNat)
  case atStart =>
    exact ⟨0, Nat.zero_le _, rfl, fun j hj => absurd hj (Nat.not_lt_zero _), Below.refl _ _⟩
  case round =>
    obtain ⟨k, hk, rfl, hG, hb⟩ := hrel
    have HG := hide hG
    clear hG
    by_cases hlt : k < l.length
    · obtain ⟨b, o, rfl, hbb, c1, c2⟩ := hA k hlt
      have d1 := Later.cell ((hb.cell (p := ⟨b, o + k * 2, none⟩) hbb).trans c1)
      have d2 := Later.cell ((hb.cell (p := ⟨b, o + k * 2 + 1, none⟩) hbb).trans c2)
      have hs := hb.size
      have hw1 := hwf k hlt
      by_cases hk0 : 0 < k
      · obtain ⟨b', o', e', hbb', c3, c4⟩ := hA (k - 1) (by omega)
        obtain ⟨rfl, rfl⟩ : b' = b ∧ o' = o := by simpa [eq_comm] using e'
        have d3 := Later.cell ((hb.cell (p := ⟨b', o' + (k - 1) * 2, none⟩) hbb').trans c3)
        have d4 := Later.cell ((hb.cell (p := ⟨b', o' + (k - 1) * 2 + 1, none⟩) hbb').trans c4)
        clear c1 c2 c3 c4 e' hA
        cases h0 : noteB (nAt l k) (nPi l k)
        · have Hg1 := hide (show good l k = false by simp [good, h0])
          have Hh0 := hide h0
          clear h0
          go_wp2_with fail
          refine wp_region_later (by kernel_rfl) (by kernel_rfl) ?_
          repeat (go_big_quiet_step ((go_at_call 74; exact Later.call (Hh0.out ▸ l01Note_any _ _ hw1.1 hw1.2 _))))
          refine wpQuiet_nil ?_
          rintro _ ⟨⟨wq, hq⟩, rfl⟩
          go_wp2
          go_ret
          exact ⟨ret_bool (okB_no l k hlt Hg1.out).symm, hb.trans (hq.mono hs)⟩
        · cases h1 : befB (nAt l (k - 1)) (nPi l (k - 1)) (nAt l k) (nPi l k)
          · have Hg1 := hide (show good l k = false by simp [good, h1, show ¬ k = 0 by omega])
            have Hh0 := hide h0
            have Hh1 := hide h1
            clear h0 h1
            go_wp2_with fail
            refine wp_region_later (by kernel_rfl) (by kernel_rfl) ?_
            repeat (go_big_quiet_step ((first | (go_at_call 74; exact Later.call (Hh0.out ▸ l01Note_any _ _ hw1.1 hw1.2 _)) | (go_at_call 75; exact Later.call (Hh1.out ▸ l01Before_any _ _ _ _ _)))))
            refine wpQuiet_nil ?_
            rintro _ ⟨⟨wq, hq⟩, rfl⟩
            go_wp2
            go_ret
            exact ⟨ret_bool (okB_no l k hlt Hg1.out).symm, hb.trans (hq.mono hs)⟩
          · have Hg1 := hide (show good l k = true by simp [good, h0, h1])
            have Hh0 := hide h0
            have Hh1 := hide h1
            clear h0 h1
            go_wp2_with fail
            refine wp_region_later (by kernel_rfl) (by kernel_rfl) ?_
            repeat (go_big_quiet_step ((first | (go_at_call 74; exact Later.call (Hh0.out ▸ l01Note_any _ _ hw1.1 hw1.2 _)) | (go_at_call 75; exact Later.call (Hh1.out ▸ l01Before_any _ _ _ _ _)))))
            refine wpQuiet_nil ?_
            rintro _ ⟨⟨wq, hq⟩, rfl⟩
            go_wp2
            go_roundw
            case rel => exact ⟨k + 1, hlt, by go_num, Good_succ l k HG.out Hg1.out, hb.trans (hq.mono hs)⟩
            case measure => simp [intOf]; omega
      · obtain rfl : k = 0 := by omega
        simp only [Nat.zero_mul, Nat.add_zero] at d1 d2
        clear c1 c2 hA hk0
        cases h0 : noteB (nAt l 0) (nPi l 0)
        · have Hg1 := hide (show good l 0 = false by simp [good, h0])
          have Hh0 := hide h0
          clear h0
          go_wp2_with fail
          refine wp_region_later (by kernel_rfl) (by kernel_rfl) ?_
          repeat (go_big_quiet_step ((go_at_call 74; exact Later.call (Hh0.out ▸ l01Note_any _ _ hw1.1 hw1.2 _))))
          refine wpQuiet_nil ?_
          rintro _ ⟨⟨wq, hq⟩, rfl⟩
          go_wp2
          go_ret
          exact ⟨ret_bool (okB_no l 0 hlt Hg1.out).symm, hb.trans (hq.mono hs)⟩
        · have Hg1 := hide (show good l 0 = true by simp [good, h0])
          have Hh0 := hide h0
          clear h0
          go_wp2_with fail
          refine wp_region_later (by kernel_rfl) (by kernel_rfl) ?_
          repeat (go_big_quiet_step ((go_at_call 74; exact Later.call (Hh0.out ▸ l01Note_any _ _ hw1.1 hw1.2 _))))
          refine wpQuiet_nil ?_
          rintro _ ⟨⟨wq, hq⟩, rfl⟩
          go_wp2
          go_roundw
          case rel => exact ⟨1, hlt, by go_num, Good_succ l 0 HG.out Hg1.out, hb.trans (hq.mono hs)⟩
          case measure => simp [intOf]; omega
    · obtain rfl : k = l.length := by omega
      go_wp2
      go_ret
      exact ⟨ret_bool (by rw [okB_yes l HG.out]; exact decide_eq_decide.2 (by omega)), hb⟩
end Go.Proofs.YtehmkablandefaaGreatDoor
namespace Go.Proofs.YtehmkablandefaaGreatDoor
open Go.RowKit

theorem isNaN16_any (a : Int) (w : World) :
    Calls Tryz.prog 113 #[.int .i16 a] w fun e w' => e = .returned (.bool false) ∧ w = w' := by
  go_enter Tryz.func113, Tryz.ntmps113
  go_wp2
  all_goals go_ret
  all_goals exact ⟨ret_bool (by simp), rfl⟩
theorem isNaN8_any (a : Int) (w : World) :
    Calls Tryz.prog 114 #[.int .i8 a] w fun e w' => e = .returned (.bool false) ∧ w = w' := by
  go_enter Tryz.func114, Tryz.ntmps114
  go_wp2
  all_goals go_ret
  all_goals exact ⟨ret_bool (by simp), rfl⟩
def cmpI (a b : Int) : Int := if a < b then -1 else if b < a then 1 else 0
theorem cmp16_any (a b : Int) (w : World) :
    Calls Tryz.prog 97 #[.int .i16 a, .int .i16 b] w fun e w' => e = .returned (.int .i64 (cmpI a b)) ∧ w = w' := by
  go_enter Tryz.func97, Tryz.ntmps97
  go_wp2_with (go_at_call 113; refine (isNaN16_any _ _).mono ?_; rintro e w' ⟨rfl, rfl⟩)
  all_goals go_ret
  all_goals exact ⟨ret_int (by unfold cmpI; (repeat' split) <;> omega), rfl⟩
theorem cmp8_any (a b : Int) (w : World) :
    Calls Tryz.prog 98 #[.int .i8 a, .int .i8 b] w fun e w' => e = .returned (.int .i64 (cmpI a b)) ∧ w = w' := by
  go_enter Tryz.func98, Tryz.ntmps98
  go_wp2_with (go_at_call 114; refine (isNaN8_any _ _).mono ?_; rintro e w' ⟨rfl, rfl⟩)
  all_goals go_ret
  all_goals exact ⟨ret_int (by unfold cmpI; (repeat' split) <;> omega), rfl⟩
def orI (x y : Int) : Int := if x = 0 then y else x
theorem cmpOr_any (g : Nat) (x y : Int) (w : World) (h1 : w.cell? ⟨g, 0, none⟩ = some (.int .i64 x)) (h2 : w.cell? ⟨g, 1, none⟩ = some (.int .i64 y)) :
    Calls Tryz.prog 96 #[.slice (some ⟨g, 0, none⟩) 2 2] w fun e w' => e = .returned (.int .i64 (orI x y)) ∧ w = w' := by
  go_enter Tryz.func96, Tryz.ntmps96
  go_wp2_with fail
  go_loop [8] (fun i => ∃ k : Nat, k ≤ 2 ∧ i = .int .i64 k ∧ (0 < k → x = 0) ∧ (1 < k → y = 0)) (fun i => 3 - (intOf i).toNat)
  case atStart => exact ⟨0, by omega, rfl, fun h => absurd h (by omega), fun h => absurd h (by omega)⟩
  case round =>
    obtain ⟨k, hk, rfl, e1, e2⟩ := hrel
    have E1 := hide e1
    have E2 := hide e2
    clear e1 e2
    match k, hk with
    | 0, _ =>
      go_wp2
      · go_ret
        exact ⟨ret_int (by rw [orI, if_neg (by simpa using ‹(x != 0) = true›)]), rfl⟩
      · go_round
        case rel => exact ⟨1, by omega, by go_num, fun _ => by simpa using ‹(x != 0) = false›, fun h => absurd h (by omega)⟩
        case measure => simp [intOf]
    | 1, _ =>
      go_wp2
      · go_ret
        exact ⟨ret_int (by rw [orI, if_pos (E1.out (by omega))]), rfl⟩
      · go_round
        case rel => exact ⟨2, by omega, by go_num, fun _ => E1.out (by omega), fun _ => by simpa using ‹(y != 0) = false›⟩
        case measure => simp [intOf]
    | 2, _ =>
      go_wp2
      go_ret
      exact ⟨ret_int (by rw [orI, if_pos (E1.out (by omega)), E2.out (by omega)]), rfl⟩
def ordI (a p b q : Int) : Int := orI (cmpI a b) (cmpI p q)
theorem ordI_neg (a p b q : Int) : ordI a p b q < 0 ↔ befB a p b q = true := by
  simp only [ordI, orI, cmpI, befB, decide_eq_true_eq]
  (repeat' split) <;> omega
set_option maxHeartbeats 1000000 in
theorem compareNotes_any (a p b q : Int) (w : World) :
    Calls Tryz.prog 84 #[.agg #[.int .i16 a, .int .i8 p], .agg #[.int .i16 b, .int .i8 q]] w fun e w' => e = .returned (.int .i64 (ordI a p b q)) ∧ Below w.heap.size w w' := by
  go_enter Tryz.func84, Tryz.ntmps84
  go_wp2_with fail
  have k1 : ((w.alloc (.cells #[.int .i16 a, .int .i8 p] 83)).alloc (.cells #[.int .i16 b, .int .i8 q] 83)).cell? ⟨w.heap.size, 0, none⟩ = some (.int .i16 a) := by simp [go_sem, World.cell?_alloc_past]
  have k2 : ((w.alloc (.cells #[.int .i16 a, .int .i8 p] 83)).alloc (.cells #[.int .i16 b, .int .i8 q] 83)).cell? ⟨w.heap.size, 1, none⟩ = some (.int .i8 p) := by simp [go_sem, World.cell?_alloc_past]
  have k3 : ((w.alloc (.cells #[.int .i16 a, .int .i8 p] 83)).alloc (.cells #[.int .i16 b, .int .i8 q] 83)).cell? ⟨w.heap.size + 1, 0, none⟩ = some (.int .i16 b) := by simp [go_sem]
  have k4 : ((w.alloc (.cells #[.int .i16 a, .int .i8 p] 83)).alloc (.cells #[.int .i16 b, .int .i8 q] 83)).cell? ⟨w.heap.size + 1, 1, none⟩ = some (.int .i8 q) := by simp [go_sem]
  have k5 : Below w.heap.size w ((w.alloc (.cells #[.int .i16 a, .int .i8 p] 83)).alloc (.cells #[.int .i16 b, .int .i8 q] 83)) := ((Below.refl _ _).alloc (Nat.le_refl _) _).alloc (by simp) _
  obtain ⟨W, hW⟩ : ∃ W, W = ((w.alloc (.cells #[.int .i16 a, .int .i8 p] 83)).alloc (.cells #[.int .i16 b, .int .i8 q] 83)) := ⟨_, rfl⟩
  rw [← hW] at k1 k2 k3 k4 k5 ⊢
  clear hW
  go_region_held3 (fun w' => w'.cell? ⟨w.heap.size, 0, none⟩ = some (.int .i16 a) ∧ w'.cell? ⟨w.heap.size, 1, none⟩ = some (.int .i8 p) ∧ w'.cell? ⟨w.heap.size + 1, 0, none⟩ = some (.int .i16 b) ∧ w'.cell? ⟨w.heap.size + 1, 1, none⟩ = some (.int .i8 q) ∧ Below w.heap.size w w')
    (first | exact ⟨k1, k2, k3, k4, k5.drew⟩ | (go_split_ands; refine ⟨?_, ?_, ?_, ?_, ?_⟩ <;> first | assumption | simp [*, World.cell?_alloc_some] | exact Below.alloc (by assumption) (Below.size (by assumption)) _))
    (first | (go_at_call 97; refine (cmp16_any _ _ _).mono ?_; rintro e w2 ⟨rfl, rfl⟩) | (go_at_call 98; refine (cmp8_any _ _ _).mono ?_; rintro e w2 ⟨rfl, rfl⟩) | (go_at_call 96; refine (cmpOr_any _ (cmpI a b) (cmpI p q) _ ?_ ?_).mono ?_; (simp [go_sem]); (simp [go_sem]); rintro e w2 ⟨rfl, rfl⟩))
  go_wp2
  go_ret
  exact ⟨rfl, (k5.alloc k5.size _).drew⟩
end Go.Proofs.YtehmkablandefaaGreatDoor
namespace Go.Proofs.YtehmkablandefaaGreatDoor
open Go.RowKit
/-- one note comes before another one -/
def ltN (x y : Int × Int) : Prop := x.1 < y.1 ∨ (x.1 = y.1 ∧ x.2 < y.2)
instance (x y : Int × Int) : Decidable (ltN x y) := by unfold ltN; infer_instance
theorem befB_iff (a p b q : Int) : befB a p b q = true ↔ ltN (a, p) (b, q) := by simp [befB, ltN]
theorem ltN_irr (x : Int × Int) : ¬ ltN x x := by unfold ltN; omega
theorem ltN_asymm {x y : Int × Int} (h : ltN x y) : ¬ ltN y x := by unfold ltN at *; omega
theorem ltN_trans {x y z : Int × Int} (h1 : ltN x y) (h2 : ltN y z) : ltN x z := by unfold ltN at *; omega
theorem ltN_total {x y : Int × Int} (h1 : ¬ ltN x y) (h2 : ¬ ltN y x) : x = y := by
  unfold ltN at *
  exact Prod.ext (by omega) (by omega)
def AscN (l : List (Int × Int)) : Prop := l.Pairwise ltN
theorem asc_ext : ∀ l m : List (Int × Int), AscN l → AscN m → (∀ x, x ∈ l ↔ x ∈ m) → l = m
  | [], [], _, _, _ => rfl
  | [], y :: m, _, _, h => absurd ((h y).2 (by simp)) (by simp)
  | x :: l, [], _, _, h => absurd ((h x).1 (by simp)) (by simp)
  | x :: l, y :: m, hl, hm, h => by
    have hl' := List.pairwise_cons.1 hl
    have hm' := List.pairwise_cons.1 hm
    have hxy : x = y := by
      rcases List.mem_cons.1 ((h x).1 (by simp)) with h1 | h1
      · exact h1
      · rcases List.mem_cons.1 ((h y).2 (by simp)) with h2 | h2
        · exact h2.symm
        · exact absurd (hm'.1 x h1) (ltN_asymm (hl'.1 y h2))
    subst hxy
    rw [asc_ext l m hl'.2 hm'.2 fun z => ?_]
    constructor
    · intro hz
      rcases List.mem_cons.1 ((h z).1 (List.mem_cons_of_mem _ hz)) with h1 | h1
      · subst h1; exact absurd (hl'.1 z hz) (ltN_irr z)
      · exact h1
    · intro hz
      rcases List.mem_cons.1 ((h z).2 (List.mem_cons_of_mem _ hz)) with h1 | h1
      · subst h1; exact absurd (hm'.1 z hz) (ltN_irr z)
      · exact h1
/-- where a note goes in an ascending list: behind those before it -/
def posN (x : Int × Int) : List (Int × Int) → Nat
  | [] => 0
  | y :: l => if befB y.1 y.2 x.1 x.2 then posN x l + 1 else 0
theorem posN_le (x : Int × Int) : ∀ l, posN x l ≤ l.length
  | [] => Nat.le_refl _
  | y :: l => by
    unfold posN
    split
    · have := posN_le x l; simp; omega
    · simp
/-- a note put into an ascending list, where it is not there -/
def insU (l : List (Int × Int)) (x : Int × Int) : List (Int × Int) := if l[posN x l]? = some x then l else l.take (posN x l) ++ x :: l.drop (posN x l)
theorem insU_nil (x : Int × Int) : insU [] x = [x] := by simp [insU, posN]
theorem insU_cons (y : Int × Int) (l : List (Int × Int)) (x : Int × Int) : insU (y :: l) x = if befB y.1 y.2 x.1 x.2 then y :: insU l x else if y = x then y :: l else x :: y :: l := by
  unfold insU
  rw [posN]
  by_cases hb : befB y.1 y.2 x.1 x.2
  · simp only [hb, if_true]
    rw [List.getElem?_cons_succ, List.take_succ_cons, List.drop_succ_cons]
    split <;> rfl
  · simp only [hb, if_false, Bool.false_eq_true]
    simp
theorem insU_mem (x : Int × Int) : ∀ (l : List (Int × Int)) (z : Int × Int), z ∈ insU l x ↔ z ∈ l ∨ z = x
  | [], z => by rw [insU_nil]; simp
  | y :: l, z => by
    rw [insU_cons]
    by_cases hb : befB y.1 y.2 x.1 x.2
    · simp only [hb, if_true, List.mem_cons, insU_mem x l z, or_assoc]
    · simp only [hb, if_false, Bool.false_eq_true]
      by_cases he : y = x
      · subst he; simp only [if_true]; exact ⟨Or.inl, fun h => h.elim id fun e => by rw [e]; simp⟩
      · simp only [he, if_false, List.mem_cons]
        constructor
        · rintro (h | h | h)
          · exact Or.inr h
          · exact Or.inl (Or.inl h)
          · exact Or.inl (Or.inr h)
        · rintro ((h | h) | h)
          · exact Or.inr (Or.inl h)
          · exact Or.inr (Or.inr h)
          · exact Or.inl h
theorem insU_asc (x : Int × Int) : ∀ l : List (Int × Int), AscN l → AscN (insU l x)
  | [], _ => by rw [insU_nil]; exact List.pairwise_singleton _ _
  | y :: l, h => by
    have h' := List.pairwise_cons.1 h
    rw [insU_cons]
    by_cases hb : befB y.1 y.2 x.1 x.2
    · simp only [hb, if_true]
      refine List.pairwise_cons.2 ⟨fun z hz => ?_, insU_asc x l h'.2⟩
      rcases (insU_mem x l z).1 hz with h1 | h1
      · exact h'.1 z h1
      · subst h1; exact (befB_iff _ _ _ _).1 hb
    · simp only [hb, if_false, Bool.false_eq_true]
      by_cases he : y = x
      · simp only [he, if_true]; rw [← he]; exact h
      · simp only [he, if_false]
        have hn : ¬ ltN y x := fun hh => hb ((befB_iff y.1 y.2 x.1 x.2).2 hh)
        have hxy : ltN x y := by
          rcases Decidable.em (ltN x y) with h1 | h1
          · exact h1
          · exact absurd (ltN_total hn h1) he
        refine List.pairwise_cons.2 ⟨fun z hz => ?_, h⟩
        rcases List.mem_cons.1 hz with h1 | h1
        · subst h1; exact hxy
        · exact ltN_trans hxy (h'.1 z h1)
/-- the notes of a list in their order, equal ones being made one -/
def sortU (l : List (Int × Int)) : List (Int × Int) := l.foldl insU []
theorem sortU_snoc (l : List (Int × Int)) (x : Int × Int) : sortU (l ++ [x]) = insU (sortU l) x := by simp [sortU]
theorem foldU_mem : ∀ (l acc : List (Int × Int)) (z : Int × Int), z ∈ l.foldl insU acc ↔ z ∈ acc ∨ z ∈ l
  | [], acc, z => by simp
  | x :: l, acc, z => by rw [List.foldl_cons, foldU_mem l (insU acc x) z, insU_mem, List.mem_cons, or_assoc]
theorem foldU_asc : ∀ (l acc : List (Int × Int)), AscN acc → AscN (l.foldl insU acc)
  | [], _, h => h
  | x :: l, acc, h => by rw [List.foldl_cons]; exact foldU_asc l _ (insU_asc x acc h)
theorem sortU_mem (l : List (Int × Int)) (z : Int × Int) : z ∈ sortU l ↔ z ∈ l := by rw [sortU, foldU_mem]; simp
theorem sortU_asc (l : List (Int × Int)) : AscN (sortU l) := foldU_asc l [] List.Pairwise.nil
/-- sorted alone -/
def srtN (l : List (Int × Int)) : List (Int × Int) := l.mergeSort fun x y => !(befB y.1 y.2 x.1 x.2)
theorem srtN_perm (l : List (Int × Int)) : (srtN l).Perm l := List.mergeSort_perm _ _
theorem srtN_len (l : List (Int × Int)) : (srtN l).length = l.length := (srtN_perm l).length_eq
theorem srtN_asc (l : List (Int × Int)) (h : l.Nodup) : AscN (srtN l) := by
  have hp := List.pairwise_mergeSort (le := fun x y : Int × Int => !(befB y.1 y.2 x.1 x.2))
    (fun a b c h1 h2 => by simp [befB] at *; omega) (fun a b => by simp [befB]; omega) l
  have hn : (srtN l).Nodup := (srtN_perm l).nodup_iff.2 h
  have hb := hp.and hn
  refine hb.imp fun {x y} ⟨h1, h2⟩ => ?_
  rcases Decidable.em (ltN x y) with h3 | h3
  · exact h3
  · have h4 : ¬ ltN y x := fun h5 => by have := (befB_iff y.1 y.2 x.1 x.2).2 h5; simp [this] at h1
    exact absurd (ltN_total h3 h4) h2
theorem srtN_eq_sortU (l m : List (Int × Int)) (h : l.Nodup) (hm : ∀ x, x ∈ l ↔ x ∈ m) : srtN l = sortU m :=
  asc_ext _ _ (srtN_asc l h) (sortU_asc m) fun x => by rw [(srtN_perm l).mem_iff, sortU_mem, hm]
theorem srtN_id (l : List (Int × Int)) (h : AscN l) : srtN l = l :=
  asc_ext _ _ (srtN_asc l (h.imp fun {x y} h1 h2 => by subst h2; exact ltN_irr _ h1)) h fun x => (srtN_perm l).mem_iff
end Go.Proofs.YtehmkablandefaaGreatDoor
