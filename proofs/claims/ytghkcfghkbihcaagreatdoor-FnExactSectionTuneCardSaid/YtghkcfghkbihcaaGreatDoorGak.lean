import Derived.Test.YtghkcfghkbihcaaGreatDoorGaj
import Derived.Test.YtghkcfghkbihcaaGreatDoorGai
import Derived.Test.YtghkcfghkbihcaaGreatDoorFre
namespace Go.Proofs.YtghkcfghkbihcaaGreatDoor
open Go.RowKit

/-- marks from K on -/
def mkS (K : Int) (n : Nat) : List (Int × Int) := (List.range n).map fun (i : Nat) => (IntKind.i16.wrap (K + 2 * (i : Int)), IntKind.i16.wrap (K + 2 * (i : Int) + 1))
def mkST (K : Int) (l : List (Int × Int)) (k : Nat) : List (Int × Int) := mkS K k ++ l.drop k
theorem mkS_length (K : Int) (n : Nat) : (mkS K n).length = n := by simp [mkS]
theorem mkST_zero (K : Int) (l : List (Int × Int)) : mkST K l 0 = l := by simp [mkST, mkS]
theorem mkST_all (K : Int) (l : List (Int × Int)) : mkST K l l.length = mkS K l.length := by simp [mkST]
theorem mkST_length (K : Int) (l : List (Int × Int)) (k : Nat) (h : k ≤ l.length) : (mkST K l k).length = l.length := by
  simp [mkST, mkS_length]; omega
theorem mkST_set (K : Int) (l : List (Int × Int)) (k : Nat) (h : k < l.length) : (mkST K l k).set k (IntKind.i16.wrap (K + 2 * (k : Int)), IntKind.i16.wrap (K + 2 * (k : Int) + 1)) = mkST K l (k + 1) := by
  unfold mkST mkS
  rw [List.set_append_right _ _ (by simp), List.range_succ, List.map_append, List.length_map, List.length_range, Nat.sub_self, List.drop_eq_getElem_cons h, List.set_cons_zero, List.append_assoc]
  rfl
theorem mkS_fst (K : Int) (n k : Nat) (h : k < n) : secF (mkS K n) k = IntKind.i16.wrap (K + 2 * (k : Int)) := by simp [secF, mkS, h]
theorem mkS_snd (K : Int) (n k : Nat) (h : k < n) : secS (mkS K n) k = IntKind.i16.wrap (K + 2 * (k : Int) + 1) := by simp [secS, mkS, h]
theorem mkS_of_own {w : World} {base : Nat} {e : TypeId} {A : Option Addr} {c : Nat} {K : Int} {n : Nat} (h : w.ownsRow base e 2 (.slice A n c) n (secC (mkS K n))) : SecA w A (mkS K n) := SecA.of_own (l := mkS K n) (by rw [mkS_length]; exact h)

set_option maxHeartbeats 1000000 in
theorem markSectionS_from (A : Option Addr) (c : Nat) (l : List (Int × Int)) (base : Nat) (K : Int) (w : World) (h : w.ownsRow base 68 2 (.slice A l.length c) l.length (secC l)) (hn : l.length ≤ 1048576) (hK : 0 ≤ K ∧ K ≤ 1099511627776) :
    Calls Tryz.prog 41 #[.slice A l.length c, .int .i64 K] w fun e w' => e = .returned (.int .i64 (K + 2 * (l.length : Int))) ∧ w'.ownsRow base 68 2 (.slice A l.length c) l.length (secC (mkS K l.length)) ∧ w.grownBy w' (Value.slice A l.length c).ownBlock := by
  obtain ⟨hK1, hK2⟩ := hK
  go_enter Tryz.func41, Tryz.ntmps41
  go_wp2_with fail
  go_loopw [1, 5] (fun m i wr => ∃ k : Nat, k ≤ l.length ∧ i = .int .i64 k ∧ m = .int .i64 (K + 2 * (k : Int)) ∧ wr.ownsRow base 68 2 (.slice A l.length c) l.length (secC (mkST K l k)) ∧ w.grownBy wr (Value.slice A l.length c).ownBlock)
    (fun _ i _ => l.length - (intOf i).toNat)
  case atStart => exact ⟨0, Nat.zero_le _, rfl, ret_int' (by omega), by rw [mkST_zero]; exact h, grown_refl _ _⟩
  case round =>
    obtain ⟨k, hk, rfl, rfl, hown, hb⟩ := hrel
    by_cases hlt : k < l.length
    · rcases hown.2 with ⟨h', h0⟩ | ⟨g, cap, cur, h', hgb, hg, _⟩
      · omega
      · simp only [Value.slice.injEq, true_and] at h'
        obtain ⟨rfl, rfl⟩ := h'
        have hl' := mkST_length K l k hk
        have f1 := (hown.cellAt (k * 2) (by omega)).trans (secC_even (mkST K l k) k (by omega))
        have f2 := (hown.cellAt (k * 2 + 1) (by omega)).trans (secC_odd (mkST K l k) k (by omega))
        have f3 := hown.frozenAt (k * 2)
        have f4 := hown.frozenAt (k * 2 + 1)
        have HS := hide (mkST_set K l k hlt)
        obtain ⟨u, hu⟩ : ∃ u, u = IntKind.i16.wrap (K + 2 * (k : Int)) := ⟨_, rfl⟩
        obtain ⟨v, hv⟩ : ∃ v, v = IntKind.i16.wrap (K + 2 * (k : Int) + 1) := ⟨_, rfl⟩
        have HU := hide hu
        have HV := hide hv
        clear hg h hu hv
        go_wp2
        exact ⟨⟨k + 1, hlt, ret_int' (by omega), ret_int' (by omega), by rw [← HS.out]; exact secown_set2 hown k _ _, grown_set (grown_set hb)⟩, by simp [intOf]; omega⟩
    · obtain rfl : k = l.length := by omega
      go_wp2
      go_ret
      exact ⟨rfl, by rw [← mkST_all]; exact hown, hb⟩
theorem markProgramme_from (A : Option Addr) (c : Nat) (l : List (Int × Int)) (o : Nat → Int) (base : Nat) (K : Int) (w : World) (h : w.ownsRow base 68 2 (.slice A l.length c) l.length (secC l)) (hn : l.length ≤ 1048576) (hK : 0 ≤ K ∧ K ≤ 1099511627776) :
    Calls Tryz.prog 17 #[.agg (prA A l.length c o), .int .i64 K] w fun e w' => e = .returned (.int .i64 (K + 2 * (l.length : Int))) ∧ w'.ownsRow base 68 2 (.slice A l.length c) l.length (secC (mkS K l.length)) ∧ w.grownBy w' (Value.slice A l.length c).ownBlock := by
  have h1 := h.alloc (.cells (prA A l.length c o) 47)
  have c0 := (Bk.new w 47 (prA A l.length c o) rfl).slice
  go_enter Tryz.func17, Tryz.ntmps17
  go_wp2_with (go_at_call 41; refine (markSectionS_from A c l base K _ h1 hn hK).mono ?_; rintro e w' ⟨rfl, ho, hb⟩)
  go_ret
  exact ⟨rfl, ho, (World.grownBy_alloc w _ _).trans hb⟩
theorem eqSectionS_self (A B : Option Addr) (c d : Nat) (l : List (Int × Int)) (w : World) (hA : SecA w A l) (hB : SecA w B l) (hn : l.length ≤ 1048576) :
    Calls Tryz.prog 38 #[.slice A l.length c, .slice B l.length d] w (Says true w) := by
  have h := eqSectionS_any A B c d l l w hA hB hn hn
  rwa [sameB_refl] at h
end Go.Proofs.YtghkcfghkbihcaaGreatDoor
namespace Go.Proofs.YtghkcfghkbihcaaGreatDoor
open Go.RowKit

/-- worn pins as cells -/
def wnC (l : List (Int × Int × Int)) : List Value := l.flatMap fun n => [.int .i8 n.1, .int .i8 n.2.1, .int .i64 n.2.2]
def wnS (l : List (Int × Int × Int)) (k : Nat) : Int := (l.getD k (0, 0, 0)).1
def wnT (l : List (Int × Int × Int)) (k : Nat) : Int := (l.getD k (0, 0, 0)).2.1
def wnP (l : List (Int × Int × Int)) (k : Nat) : Int := (l.getD k (0, 0, 0)).2.2
def WnWF (l : List (Int × Int × Int)) : Prop := ∀ k, k < l.length → (-128 ≤ wnS l k ∧ wnS l k ≤ 127) ∧ (-128 ≤ wnT l k ∧ wnT l k ≤ 127) ∧ (-9223372036854775808 ≤ wnP l k ∧ wnP l k ≤ 9223372036854775807)

theorem wnC_nil : wnC [] = [] := rfl
theorem wnC_cons (n : Int × Int × Int) (l : List (Int × Int × Int)) : wnC (n :: l) = .int .i8 n.1 :: .int .i8 n.2.1 :: .int .i64 n.2.2 :: wnC l := rfl
theorem wnC_append (l m : List (Int × Int × Int)) : wnC (l ++ m) = wnC l ++ wnC m := by simp [wnC]
theorem wnC_length (l : List (Int × Int × Int)) : (wnC l).length = l.length * 3 := by
  induction l with
  | nil => rfl
  | cons n l ih => simp [wnC_cons, ih]; omega
theorem wnC_at (l : List (Int × Int × Int)) : ∀ k, k < l.length → (wnC l)[k * 3]? = some (.int .i8 (wnS l k)) ∧ (wnC l)[k * 3 + 1]? = some (.int .i8 (wnT l k)) ∧ (wnC l)[k * 3 + 2]? = some (.int .i64 (wnP l k)) := by
  induction l with
  | nil => intro k h; simp at h
  | cons n l ih =>
    intro k h
    cases k with
    | zero => simp [wnC_cons, wnS, wnT, wnP]
    | succ k =>
      have := ih k (by simpa using h)
      rw [show (k + 1) * 3 = k * 3 + 1 + 1 + 1 from by omega, show k * 3 + 1 + 1 + 1 + 1 = (k * 3 + 1) + 1 + 1 + 1 from rfl, show k * 3 + 1 + 1 + 1 + 2 = (k * 3 + 2) + 1 + 1 + 1 from rfl]
      simpa [wnC_cons, wnS, wnT, wnP] using this
theorem wnC_set (l : List (Int × Int × Int)) : ∀ (k : Nat) (a p : Int) (q : Int), wnC (l.set k (a, p, q)) = (((wnC l).set (k * 3) (.int .i8 a)).set (k * 3 + 1) (.int .i8 p)).set (k * 3 + 2) (.int .i64 q) := by
  induction l with
  | nil => intro k a p q; simp [wnC_nil]
  | cons n l ih =>
    intro k a p q
    cases k with
    | zero => simp [wnC_cons]
    | succ k =>
      rw [show (k + 1) * 3 = k * 3 + 1 + 1 + 1 from by omega, show k * 3 + 1 + 1 + 1 + 1 = (k * 3 + 1) + 1 + 1 + 1 from rfl, show k * 3 + 1 + 1 + 1 + 2 = (k * 3 + 2) + 1 + 1 + 1 from rfl]
      simp [wnC_cons, ih]
theorem wnC_replicate (n : Nat) : wnC (List.replicate n (0, 0, 0)) = (madeCells #[.int .i8 0, .int .i8 0, .int .i64 0] (n * 3)).toList := by
  apply List.ext_getElem?
  intro j
  by_cases hj : j < n * 3
  · have hk : j / 3 < (List.replicate n ((0 : Int), (0 : Int), (0 : Int))).length := by simp; omega
    obtain ⟨h0, h1, h2⟩ := wnC_at (List.replicate n (0, 0, 0)) (j / 3) hk
    have hm : j % 3 = 0 ∨ j % 3 = 1 ∨ j % 3 = 2 := by omega
    rcases hm with h | h | h
    · rw [show j = j / 3 * 3 by omega, h0]
      simp [madeCells, wnS, List.getD, List.getElem?_replicate, show j / 3 < n by omega, show j / 3 * 3 < n * 3 by omega]
    · rw [show j = j / 3 * 3 + 1 by omega, h1]
      simp [madeCells, wnT, List.getD, List.getElem?_replicate, show j / 3 < n by omega, show j / 3 * 3 + 1 < n * 3 by omega, show (j / 3 * 3 + 1) % 3 = 1 by omega]
    · rw [show j = j / 3 * 3 + 2 by omega, h2]
      simp [madeCells, wnP, List.getD, List.getElem?_replicate, show j / 3 < n by omega, show j / 3 * 3 + 2 < n * 3 by omega, show (j / 3 * 3 + 2) % 3 = 2 by omega]
  · rw [List.getElem?_eq_none (by rw [wnC_length]; simp; omega), List.getElem?_eq_none (by simp [madeCells]; omega)]

/-- a slice's address under which worn pins lie -/
def WnA (w : World) (A : Option Addr) (l : List (Int × Int × Int)) : Prop :=
  ∀ k, k < l.length → ∃ b o, A = some ⟨b, o, none⟩ ∧ b < w.heap.size ∧ w.cell? ⟨b, o + k * 3, none⟩ = some (.int .i8 (wnS l k)) ∧ w.cell? ⟨b, o + k * 3 + 1, none⟩ = some (.int .i8 (wnT l k)) ∧ w.cell? ⟨b, o + k * 3 + 2, none⟩ = some (.int .i64 (wnP l k))
theorem WnA.below {w w' : World} {A : Option Addr} {l : List (Int × Int × Int)} (h : WnA w A l) (hb : Below w.heap.size w w') : WnA w' A l := by
  intro k hk
  obtain ⟨b, o, rfl, hlt, h1, h2, h3⟩ := h k hk
  exact ⟨b, o, rfl, Nat.lt_of_lt_of_le hlt hb.size, (hb.cell (p := ⟨b, _, none⟩) hlt).trans h1, (hb.cell (p := ⟨b, _, none⟩) hlt).trans h2, (hb.cell (p := ⟨b, _, none⟩) hlt).trans h3⟩
theorem WnA.of_own {w : World} {base : Nat} {e : TypeId} {A : Option Addr} {c : Nat} {l : List (Int × Int × Int)} (h : w.ownsRow base e 3 (.slice A l.length c) l.length (wnC l)) : WnA w A l := by
  intro k hk
  rcases h.2 with ⟨h', h0⟩ | ⟨g, cap, cur, h', hb, hg, _⟩
  · omega
  · simp only [Value.slice.injEq, true_and] at h'
    obtain ⟨rfl, rfl⟩ := h'
    obtain ⟨h0, h1, h2⟩ := wnC_at l k hk
    refine ⟨g, 0, rfl, (Array.getElem?_eq_some_iff.1 hg).1, ?_, ?_, ?_⟩
    · rw [Nat.zero_add, h.cellAt (k * 3) (by omega), h0]
    · rw [Nat.zero_add, h.cellAt (k * 3 + 1) (by omega), h1]
    · rw [Nat.zero_add, h.cellAt (k * 3 + 2) (by omega), h2]
theorem wnown_set3 {w : World} {base : Nat} {e : TypeId} {g n c : Nat} {l : List (Int × Int × Int)} (h : w.ownsRow base e 3 (.slice (some ⟨g, 0, none⟩) n c) n (wnC l)) (k : Nat) (a p : Int) (q : Int) :
    (((w.setCell ⟨g, k * 3, none⟩ (.int .i8 a)).setCell ⟨g, k * 3 + 1, none⟩ (.int .i8 p)).setCell ⟨g, k * 3 + 2, none⟩ (.int .i64 q)).ownsRow base e 3 (.slice (some ⟨g, 0, none⟩) n c) n (wnC (l.set k (a, p, q))) := by
  rw [wnC_set]
  exact (((h.stored (k * 3) (.int .i8 a)).1.stored (k * 3 + 1) (.int .i8 p)).1.stored (k * 3 + 2) (.int .i64 q)).1
def wnup (l : List (Int × Int × Int)) (k : Nat) : List (Int × Int × Int) := l.take k ++ List.replicate (l.length - k) (0, 0, 0)
theorem wnup_length (l : List (Int × Int × Int)) (k : Nat) (h : k ≤ l.length) : (wnup l k).length = l.length := by simp [wnup]; omega
theorem wnup_set (l : List (Int × Int × Int)) (k : Nat) (h : k < l.length) : (wnup l k).set k (wnS l k, wnT l k, wnP l k) = wnup l (k + 1) := by
  have e1 : l.length - k = (l.length - (k + 1)) + 1 := by omega
  have e2 : (wnS l k, wnT l k, wnP l k) = l[k] := by simp [wnS, wnT, wnP, List.getD, h]
  rw [wnup, wnup, e1, List.replicate_succ, e2, List.take_succ_eq_append_getElem h, List.set_append_right _ _ (by simp; omega)]
  simp only [List.length_take, show k - min k l.length = 0 by omega, List.set_cons_zero, List.append_assoc, List.cons_append, List.nil_append]
theorem wnup_zero (l : List (Int × Int × Int)) : wnup l 0 = List.replicate l.length (0, 0, 0) := by simp [wnup]
theorem wnup_all (l : List (Int × Int × Int)) : wnup l l.length = l := by simp [wnup]

/-- marks from K on -/
def mkWn (K : Int) (n : Nat) : List (Int × Int × Int) := (List.range n).map fun (i : Nat) => (IntKind.i8.wrap (K + 3 * (i : Int)), IntKind.i8.wrap (K + 3 * (i : Int) + 1), IntKind.i64.wrap (K + 3 * (i : Int) + 1 + 1))
def mkWnT (K : Int) (l : List (Int × Int × Int)) (k : Nat) : List (Int × Int × Int) := mkWn K k ++ l.drop k
theorem mkWn_length (K : Int) (n : Nat) : (mkWn K n).length = n := by simp [mkWn]
theorem mkWnT_zero (K : Int) (l : List (Int × Int × Int)) : mkWnT K l 0 = l := by simp [mkWnT, mkWn]
theorem mkWnT_all (K : Int) (l : List (Int × Int × Int)) : mkWnT K l l.length = mkWn K l.length := by simp [mkWnT]
theorem mkWnT_length (K : Int) (l : List (Int × Int × Int)) (k : Nat) (h : k ≤ l.length) : (mkWnT K l k).length = l.length := by
  simp [mkWnT, mkWn_length]; omega
theorem mkWnT_set (K : Int) (l : List (Int × Int × Int)) (k : Nat) (h : k < l.length) : (mkWnT K l k).set k (IntKind.i8.wrap (K + 3 * (k : Int)), IntKind.i8.wrap (K + 3 * (k : Int) + 1), IntKind.i64.wrap (K + 3 * (k : Int) + 1 + 1)) = mkWnT K l (k + 1) := by
  unfold mkWnT mkWn
  rw [List.set_append_right _ _ (by simp), List.range_succ, List.map_append, List.length_map, List.length_range, Nat.sub_self, List.drop_eq_getElem_cons h, List.set_cons_zero, List.append_assoc]
  rfl
theorem mkWn_of_own {w : World} {base : Nat} {e : TypeId} {A : Option Addr} {c : Nat} {K : Int} {n : Nat} (h : w.ownsRow base e 3 (.slice A n c) n (wnC (mkWn K n))) : WnA w A (mkWn K n) := WnA.of_own (l := mkWn K n) (by rw [mkWn_length]; exact h)
end Go.Proofs.YtghkcfghkbihcaaGreatDoor
