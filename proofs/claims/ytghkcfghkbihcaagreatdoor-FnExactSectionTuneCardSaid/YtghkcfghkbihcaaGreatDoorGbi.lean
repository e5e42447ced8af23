import Derived.Test.YtghkcfghkbihcaaGreatDoorChg
import Derived.Test.YtghkcfghkbihcaaGreatDoorGbh
namespace Go.Proofs.YtghkcfghkbihcaaGreatDoor
open Go.RowKit
/-- block g holds one number -/
def Nb (w : World) (g : Nat) (x : Int) : Prop := w.cell? ⟨g, 0, none⟩ = some (.int .i64 x) ∧ g < w.heap.size
theorem Nb.keep {w w' : World} {g : Nat} {x : Int} (h : Nb w g x) (hb : Below w.heap.size w w') : Nb w' g x := ⟨(hb.cell (p := ⟨g, 0, none⟩) h.2).trans h.1, Nat.lt_of_lt_of_le h.2 hb.size⟩
def shP (d p : Int) (a q : Int) : Int × Int := (a + d, q + p)
set_option maxRecDepth 20000 in
theorem shifted1_any (g h : Nat) (d p a q : Int) (w : World) (h1 : Nb w g d) (h2 : Nb w h p) (hd : -100000 ≤ d ∧ d ≤ 100000) (hp : -100000 ≤ p ∧ p ≤ 100000) (ha : -32768 ≤ a ∧ a ≤ 32767) (hq : -128 ≤ q ∧ q ≤ 127) :
    Calls Tryz.prog 89 #[.int .i64 a, .int .i64 q, .pointer (some ⟨g, 0, none⟩), .pointer (some ⟨h, 0, none⟩)] w fun e w' => e = .returned (.tuple #[.int .i64 (a + d), .int .i64 (q + p)]) ∧ Below w.heap.size w w' := by
  have e1 := Later.cell h1.1
  have e2 := Later.cell h2.1
  have hw1 : IntKind.i64.wrap (a + d) = a + d := IntWalk.i64_in _ (by omega)
  have hw2 : IntKind.i64.wrap (q + p) = q + p := IntWalk.i64_in _ (by omega)
  clear h1 h2
  go_enter Tryz.func89, Tryz.ntmps89
  go_wp2_with fail
  refine wp_region_later (by kernel_rfl) (by kernel_rfl) ?_
  repeat (go_big_quiet_step (fail))
  refine wpQuiet_nil ?_
  rintro wz ⟨⟨_, hq'⟩, rfl⟩
  go_wp2
  go_ret2
  exact ⟨rfl, hq'⟩
set_option maxRecDepth 20000 in
set_option maxHeartbeats 1000000 in
theorem shifted_any (d p : Int) (A : Option Addr) (c : Nat) (l : List (Int × Int)) (w : World) (hA : NA w A l) (hn : l.length ≤ 1048576) (hwf : WF l) (hd : -100000 ≤ d ∧ d ≤ 100000) (hp : -100000 ≤ p ∧ p ≤ 100000) :
    Calls Tryz.prog 71 #[.slice A l.length c, .int .i64 d, .int .i64 p] w (OwnN w (chV (shP d p) l) (chC (shP d p) l)) := by
  have hmf : ∀ (fn : Fn) (first cap : Array Value) (w : World), (Instr.makeFunc fn first cap).run Tryz.prog w = .ok (.func fn first cap) w := fun _ _ _ _ => rfl
  have eg : ∀ args w, (callFunc 89 args).run Tryz.prog w = .ok (.enter 89 args) w := fun _ _ => by kernel_rfl
  obtain ⟨X, hX⟩ : ∃ X, X = (w.alloc (.cells #[.int .i64 d] 2)).alloc (.cells #[.int .i64 p] 2) := ⟨_, rfl⟩
  have hb0 : Below w.heap.size w X := by rw [hX]; exact ((Below.refl _ _).alloc (Nat.le_refl _) _).alloc (by simp) _
  have N1 : Nb X w.heap.size d := by rw [hX]; exact ⟨by simp [go_sem, World.cell?_alloc_past], by simp; omega⟩
  have N2 : Nb X (w.heap.size + 1) p := by rw [hX]; exact ⟨by simp [go_sem], by simp⟩
  have hpl : PlaceOf 89 #[.pointer (some ⟨w.heap.size, 0, none⟩), .pointer (some ⟨w.heap.size + 1, 0, none⟩)] (shP d p) l X := fun W hW k hk =>
    shifted1_any w.heap.size (w.heap.size + 1) d p (nAt l k) (nPi l k) W (N1.keep hW) (N2.keep hW) hd hp (hwf k hk).1 (hwf k hk).2
  have KC := changed_any 89 #[.pointer (some ⟨w.heap.size, 0, none⟩), .pointer (some ⟨w.heap.size + 1, 0, none⟩)] (shP d p) A c l X (hA.below hb0) hn hwf eg hpl
  obtain ⟨V, hV⟩ : ∃ V, V = chV (shP d p) l := ⟨_, rfl⟩
  obtain ⟨C, hC⟩ : ∃ C, C = chC (shP d p) l := ⟨_, rfl⟩
  rw [← hV, ← hC] at KC ⊢
  clear hpl hV hC
  go_enter Tryz.func71, Tryz.ntmps71
  go_upto_region 1 with fail
  rw [← hX]
  clear hX
  go_wp2_with fail
  refine KC.mono ?_
  rintro e w1 ⟨C1, q1, rfl, own1, hb1⟩
  go_wp2
  go_ret2
  exact ⟨C1, q1, rfl, own_base own1 hb0.size, step_below hb1 hb0⟩
/-! ascending tunes -/
theorem asc_of_ok {l : List (Int × Int)} (h : okB l = true) : AscN l := by
  simp only [okB, Bool.and_eq_true, List.all_eq_true, List.mem_range, good, Bool.or_eq_true, decide_eq_true_eq] at h
  have adj : ∀ j, 0 < j → j < l.length → ltN (nAt l (j - 1), nPi l (j - 1)) (nAt l j, nPi l j) := fun j h0 hj => by
    rcases (h.1 j hj).2 with e | e
    · omega
    · exact (befB_iff _ _ _ _).1 e
  have hget : ∀ j (hj : j < l.length), l[j] = (nAt l j, nPi l j) := fun j hj => by simp [nAt, nPi, List.getD, hj]
  refine List.pairwise_iff_getElem.2 fun i j hi hj hij => ?_
  have all : ∀ m, i < m → m < l.length → ltN (nAt l i, nPi l i) (nAt l m, nPi l m) := by
    intro m
    induction m with
    | zero => intro h0 _; omega
    | succ m ih =>
      intro h1 h2
      have ha := adj (m + 1) (by omega) h2
      rw [Nat.add_sub_cancel] at ha
      rcases Nat.lt_or_ge i m with h3 | h3
      · exact ltN_trans (ih h3 (by omega)) ha
      · obtain rfl : i = m := by omega
        exact ha
  rw [hget i hi, hget j hj]
  exact all j hij hj
theorem ok_in {l : List (Int × Int)} (h : okB l = true) (k : Nat) (hk : k < l.length) : (0 ≤ nAt l k ∧ nAt l k ≤ 199) ∧ (0 ≤ nPi l k ∧ nPi l k ≤ 47) := by
  simp only [okB, Bool.and_eq_true, List.all_eq_true, List.mem_range, good, decide_eq_true_eq] at h
  simpa [noteB] using (h.1 k hk).1
theorem ok_len {l : List (Int × Int)} (h : okB l = true) : l.length ≤ 120 := by
  simp only [okB, Bool.and_eq_true, decide_eq_true_eq] at h
  exact h.2
theorem chL_map (pf : Int → Int → Int × Int) (l : List (Int × Int)) : chL pf l l.length = l.map fun x => pf x.1 x.2 := by
  apply List.ext_getElem
  · simp [chL]
  · intro i h1 h2
    have hi : i < l.length := by simpa [chL] using h1
    simp [chL, nAt, nPi, List.getD, hi]
theorem chL_asc {pf : Int → Int → Int × Int} {l : List (Int × Int)} (h : AscN l) (hm : ∀ x y, x ∈ l → y ∈ l → ltN x y → ltN (pf x.1 x.2) (pf y.1 y.2)) : AscN (chL pf l l.length) := by
  rw [chL_map]
  refine List.pairwise_map.2 ?_
  exact List.Pairwise.imp_of_mem (fun {x y} hx hy hxy => hm x y hx hy hxy) h
theorem chV_asc {pf : Int → Int → Int × Int} {l : List (Int × Int)} (h : AscN (chL pf l l.length)) : chV pf l = chW pf l := by
  unfold chV chW
  rw [srtN_id _ h]
theorem sh_asc {d p : Int} {l : List (Int × Int)} (h : okB l = true) : chV (shP d p) l = chW (shP d p) l :=
  chV_asc (chL_asc (asc_of_ok h) fun x y _ _ hxy => by unfold ltN shP at *; omega)
end Go.Proofs.YtghkcfghkbihcaaGreatDoor
namespace Go.Proofs.YtghkcfghkbihcaaGreatDoor
open Go.RowKit
/-- the boundary of a test -/
def Bound (p : Nat → Bool) (n c : Nat) : Prop := c ≤ n ∧ (∀ t, t < c → p t = false) ∧ ∀ t, c ≤ t → t < n → p t = true
theorem bound_le {p p' : Nat → Bool} {n c c' : Nat} (h : Bound p n c) (h' : Bound p' n c') (hp : ∀ t, t < n → p' t = true → p t = true) : c ≤ c' := by
  rcases Nat.lt_or_ge c' c with h1 | h1
  · have h2 := h.2.1 c' h1
    have h3 := hp c' (by have := h.1; omega) (h'.2.2 c' (Nat.le_refl _) (by have := h.1; omega))
    rw [h2] at h3
    cases h3
  · exact h1
theorem bound_ex (p : Nat → Bool) (n : Nat) (hm : ∀ a b, a ≤ b → b < n → p a = true → p b = true) : ∃ c, Bound p n c := by
  induction n with
  | zero => exact ⟨0, Nat.le_refl _, fun t ht => absurd ht (Nat.not_lt_zero _), fun t _ ht => absurd ht (Nat.not_lt_zero _)⟩
  | succ n ih =>
    obtain ⟨c, h1, h2, h3⟩ := ih fun a b hab hb => hm a b hab (by omega)
    rcases Nat.lt_or_ge c n with hc | hc
    · refine ⟨c, by omega, h2, fun t ht htn => ?_⟩
      rcases Nat.lt_or_ge t n with h4 | h4
      · exact h3 t ht h4
      · obtain rfl : t = n := by omega
        exact hm c t (by omega) (by omega) (h3 c (Nat.le_refl _) hc)
    · obtain rfl : c = n := by omega
      cases hp : p c
      · exact ⟨c + 1, Nat.le_refl _, fun t ht => (Nat.lt_or_ge t c).elim (h2 t) fun h4 => by obtain rfl : t = c := by omega
                                                                                             exact hp, fun t h4 h5 => by omega⟩
      · exact ⟨c, by omega, h2, fun t h4 h5 => by obtain rfl : t = c := by omega
                                                  exact hp⟩
set_option maxRecDepth 20000 in
set_option maxHeartbeats 2000000 in
theorem search_any (g : Nat) (cb : Array Value) (n c : Nat) (p : Nat → Bool) (w : World) (hn : n ≤ 1048576) (eg : ∀ args w, (callFunc g args).run Tryz.prog w = .ok (.enter g args) w)
    (hf : ∀ W, Below w.heap.size w W → ∀ i, i < n → Calls Tryz.prog g (#[.int .i64 i] ++ cb) W fun e w' => e = .returned (.bool (p i)) ∧ Below W.heap.size W w') (hb : Bound p n c) :
    Calls Tryz.prog 101 #[.int .i64 n, .func (.func g) #[] cb] w fun e w' => e = .returned (.int .i64 c) ∧ Below w.heap.size w w' := by
  have HF := hide hf
  have HB := hide hb
  clear hf hb
  go_enter Tryz.func101, Tryz.ntmps101
  go_wp2_with fail
  go_loopw [5, 6] (fun i j wr => ∃ lo hi : Nat, i = .int .i64 lo ∧ j = .int .i64 hi ∧ lo ≤ c ∧ c ≤ hi ∧ hi ≤ n ∧ Below w.heap.size w wr)
    (fun i j _ => (intOf j).toNat - (intOf i).toNat)
  case atStart => exact ⟨0, n, rfl, rfl, Nat.zero_le _, HB.out.1, Nat.le_refl _, Below.refl _ _⟩
  case round =>
    obtain ⟨lo, hi, rfl, rfl, h1, h2, h3, hb⟩ := hrel
    by_cases hlt : lo < hi
    · have KF := HF.out wr hb ((lo + hi) / 2) (by omega)
      rw [show (((lo + hi) / 2 : Nat) : Int) = ((lo : Int) + (hi : Int)) / 2 by omega] at KF
      by_cases hm : (lo + hi) / 2 < c
      · rw [HB.out.2.1 _ hm] at KF
        go_wp2_with fail
        refine KF.mono ?_
        rintro e w1 ⟨rfl, hb1⟩
        have b1 := step_below hb1 hb
        go_wp2_with fail
        go_roundw
        case rel => exact ⟨(lo + hi) / 2 + 1, hi, by rw [show ((lo : Int) + (hi : Int)) / 2 + 1 = (((lo + hi) / 2 + 1 : Nat) : Int) by omega], rfl, by omega, h2, h3, b1⟩
        case measure => simp [intOf]; omega
      · rw [HB.out.2.2 _ (by omega) (by omega)] at KF
        go_wp2_with fail
        refine KF.mono ?_
        rintro e w1 ⟨rfl, hb1⟩
        have b1 := step_below hb1 hb
        go_wp2_with fail
        go_roundw
        case rel => exact ⟨lo, (lo + hi) / 2, rfl, by rw [show ((lo : Int) + (hi : Int)) / 2 = (((lo + hi) / 2 : Nat) : Int) by omega], h1, by omega, by omega, b1⟩
        case measure => simp [intOf]; omega
    · obtain rfl : lo = c := by omega
      go_wp2
      go_ret
      exact ⟨rfl, hb⟩
set_option maxRecDepth 20000 in
theorem first1_any (g h : Nat) (A : Option Addr) (c : Nat) (l : List (Int × Int)) (s : Int) (k : Nat) (w : World) (h1 : w.cell? ⟨g, 0, none⟩ = some (.slice A l.length c)) (h2 : Nb w h s) (hA : NA w A l) (hn : l.length ≤ 1048576) (hwf : WF l) (hk : k < l.length) :
    Calls Tryz.prog 102 #[.int .i64 k, .pointer (some ⟨g, 0, none⟩), .pointer (some ⟨h, 0, none⟩)] w fun e w' => e = .returned (.bool (decide (s ≤ nAt l k))) ∧ Below w.heap.size w w' := by
  obtain ⟨b, o, rfl, hbb, c1, c2⟩ := hA k hk
  obtain ⟨⟨n1, n2⟩, _, _⟩ := hwf k hk
  have e1 := Later.cell h1
  have e2 := Later.cell h2.1
  have e3 := Later.cell c1
  clear h1 h2 c1 c2 hA
  obtain ⟨x, hx⟩ : ∃ x, x = nAt l k := ⟨_, rfl⟩
  rw [← hx] at e3 n1 n2 ⊢
  clear hx
  go_enter Tryz.func102, Tryz.ntmps102
  go_wp2_with fail
  refine wp_region_later (by kernel_rfl) (by kernel_rfl) ?_
  repeat (go_big_quiet_step (fail))
  refine wpQuiet_nil ?_
  rintro wz ⟨⟨_, hq'⟩, rfl⟩
  go_wp2
  go_ret
  exact ⟨rfl, hq'⟩
set_option maxRecDepth 20000 in
set_option maxHeartbeats 1000000 in
theorem firstFrom_any (A : Option Addr) (c : Nat) (l : List (Int × Int)) (s : Int) (c0 : Nat) (w : World) (hA : NA w A l) (hn : l.length ≤ 1048576) (hwf : WF l) (hB : Bound (fun t => decide (s ≤ nAt l t)) l.length c0) :
    Calls Tryz.prog 87 #[.slice A l.length c, .int .i64 s] w fun e w' => e = .returned (.int .i64 c0) ∧ Below w.heap.size w w' := by
  have hmf : ∀ (fn : Fn) (first cap : Array Value) (w : World), (Instr.makeFunc fn first cap).run Tryz.prog w = .ok (.func fn first cap) w := fun _ _ _ _ => rfl
  have eg : ∀ args w, (callFunc 102 args).run Tryz.prog w = .ok (.enter 102 args) w := fun _ _ => by kernel_rfl
  obtain ⟨X, hX⟩ : ∃ X, X = (w.alloc (.cells #[.slice A l.length c] 36)).alloc (.cells #[.int .i64 s] 2) := ⟨_, rfl⟩
  have hb0 : Below w.heap.size w X := by rw [hX]; exact ((Below.refl _ _).alloc (Nat.le_refl _) _).alloc (by simp) _
  have S1 : X.cell? ⟨w.heap.size, 0, none⟩ = some (.slice A l.length c) ∧ w.heap.size < X.heap.size := by rw [hX]; exact ⟨by simp [go_sem, World.cell?_alloc_past], by simp; omega⟩
  have N2 : Nb X (w.heap.size + 1) s := by rw [hX]; exact ⟨by simp [go_sem], by simp⟩
  have KS := search_any 102 #[.pointer (some ⟨w.heap.size, 0, none⟩), .pointer (some ⟨w.heap.size + 1, 0, none⟩)] l.length c0 (fun t => decide (s ≤ nAt l t)) X hn eg (fun W hW k hk =>
    first1_any w.heap.size (w.heap.size + 1) A c l s k W ((hW.cell (p := ⟨w.heap.size, 0, none⟩) S1.2).trans S1.1) (N2.keep hW) (hA.below (step_below hW hb0)) hn hwf hk) hB
  clear hB eg
  go_enter Tryz.func87, Tryz.ntmps87
  go_upto_region 1 with fail
  rw [← hX]
  clear hX
  go_wp2_with fail
  refine KS.mono ?_
  rintro e w1 ⟨rfl, hb1⟩
  go_wp2
  go_ret
  exact ⟨rfl, step_below hb1 hb0⟩
theorem NA.part {w : World} {b o : Nat} {l : List (Int × Int)} (h : NA w (some ⟨b, o, none⟩) l) (f m : Nat) : NA w (some ⟨b, o + f * 2, none⟩) ((l.drop f).take m) := by
  intro k hk
  rw [List.length_take, List.length_drop] at hk
  obtain ⟨b', o', e, hb, c1, c2⟩ := h (f + k) (by omega)
  simp only [Option.some.injEq, Addr.mk.injEq, and_true] at e
  obtain ⟨rfl, rfl⟩ := e
  have e0 : ((l.drop f).take m).getD k (0, 0) = l.getD (f + k) (0, 0) := by simp [List.getD, List.getElem?_take, show k < m by omega]
  refine ⟨b, o + f * 2, rfl, hb, ?_, ?_⟩
  · rw [show o + f * 2 + k * 2 = o + (f + k) * 2 by omega, c1]
    simp only [nAt, e0]
  · rw [show o + f * 2 + k * 2 + 1 = o + (f + k) * 2 + 1 by omega, c2]
    simp only [nPi, e0]
end Go.Proofs.YtghkcfghkbihcaaGreatDoor
