import Derived.Test.YtdglhgfhlcdflaaDoorCls
import Derived.Test.YtdglhgfhlcdflaaDoorCsp
namespace Go.Proofs.YtdglhgfhlcdflaaDoor
open Go.RowKit Go.Shelf
attribute [local go_sem] Oper.semAt_some

/-- places as cells -/
def acells (ps : List (Nat × Nat)) : List Value := ps.flatMap fun p => [.int .i64 (p.1 : Int), .int .i64 (p.2 : Int)]
theorem acells_append (a b : List (Nat × Nat)) : acells (a ++ b) = acells a ++ acells b := by simp [acells]
theorem acells_length (l : List (Nat × Nat)) : (acells l).length = l.length * 2 := by
  induction l with
  | nil => rfl
  | cons n l ih => simp only [acells, List.flatMap_cons, List.length_append, List.length_cons, List.length_nil] at ih ⊢; omega
theorem acells_even (l : List (Nat × Nat)) : ∀ k p, l[k]? = some p → (acells l)[k * 2]? = some (.int .i64 (p.1 : Int)) := by
  induction l with
  | nil => intro k p h; simp at h
  | cons n l ih =>
    intro k p h
    cases k with
    | zero => simp at h; subst h; simp [acells]
    | succ k =>
      have := ih k p (by simpa using h)
      rw [show (k + 1) * 2 = k * 2 + 1 + 1 from by omega]
      simpa [acells] using this
theorem acells_odd (l : List (Nat × Nat)) : ∀ k p, l[k]? = some p → (acells l)[k * 2 + 1]? = some (.int .i64 (p.2 : Int)) := by
  induction l with
  | nil => intro k p h; simp at h
  | cons n l ih =>
    intro k p h
    cases k with
    | zero => simp at h; subst h; simp [acells]
    | succ k =>
      have := ih k p (by simpa using h)
      rw [show (k + 1) * 2 + 1 = k * 2 + 1 + 1 + 1 from by omega]
      simpa [acells] using this
theorem info130 : (Tryd.prog.info? 130).map (fun i => (i.zero, i.size, i.bytes)) = some (some (.agg #[.int .i64 0, .int .i64 0]), 2, 16) := by kernel_rfl
/-- a slice of places of the call's own -/
def OwnA (w : World) (ps : List (Nat × Nat)) (e : Ending) (w' : World) : Prop := ∃ (A : Option Addr) (c : Nat), e = .returned (.slice A ps.length c) ∧ w'.ownsRow w.heap.size 130 2 (.slice A ps.length c) ps.length (acells ps) ∧ Below w.heap.size w w'
theorem own_emptyA {w : World} {base : Nat} (h : base ≤ w.heap.size) : (w.alloc (.cells #[] 130)).ownsRow base 130 2 (.slice (some ⟨w.heap.size, 0, none⟩) 0 0) 0 [] :=
  ⟨rfl, Or.inr ⟨w.heap.size, 0, #[], rfl, h, heap_alloc_new _ _, Nat.le_refl _, Nat.zero_le _, rfl, rfl⟩⟩
theorem cell_two_new (w : World) (x y : Value) (t : TypeId) : ∀ j u, ([x, y] : List Value)[j]? = some u → (w.alloc (.cells #[x, y] t)).cell? ((⟨w.heap.size, 0, none⟩ : Addr).add j) = some u := by
  intro j u h
  have hr : (w.alloc (.cells #[x, y] t)).heap[w.heap.size]? = some (.cells #[x, y] t (0, 0)) := heap_alloc_new _ _
  rw [Addr.add_mid, cell_of_row _ _ _ _ _ _ hr, Nat.zero_add]
  simpa using h
/-- the clashes of the first k steps, by step, then by track -/
def csK (S n : Nat) (d : Nat → Int) (l : List (Int × Int)) (k : Nat) : List (Nat × Nat) := (List.range k).flatMap fun j => ((List.range n).filter fun t => clB S d l j t).map fun t => (j, t)
def csI (S n : Nat) (d : Nat → Int) (l : List (Int × Int)) (k i : Nat) : List (Nat × Nat) := csK S n d l k ++ ((List.range i).filter fun t => clB S d l k t).map fun t => (k, t)
theorem csI_zero (S n : Nat) (d : Nat → Int) (l : List (Int × Int)) (k : Nat) : csI S n d l k 0 = csK S n d l k := by simp [csI]
theorem csI_full (S n : Nat) (d : Nat → Int) (l : List (Int × Int)) (k : Nat) : csI S n d l k n = csK S n d l (k + 1) := by simp [csI, csK, List.range_succ, List.flatMap_append]
theorem csI_yes {S n : Nat} {d : Nat → Int} {l : List (Int × Int)} {k i : Nat} (h : clB S d l k i = true) : csI S n d l k (i + 1) = csI S n d l k i ++ [(k, i)] := by
  simp [csI, List.range_succ, List.filter_append, h]
theorem csI_no {S n : Nat} {d : Nat → Int} {l : List (Int × Int)} {k i : Nat} (h : clB S d l k i = false) : csI S n d l k (i + 1) = csI S n d l k i := by
  simp [csI, List.range_succ, List.filter_append, h]
theorem csK_len (S n : Nat) (d : Nat → Int) (l : List (Int × Int)) : ∀ k, (csK S n d l k).length ≤ k * n
  | 0 => by simp [csK]
  | k + 1 => by
    have h1 := csK_len S n d l k
    have h2 := List.length_filter_le (fun t => clB S d l k t) (List.range n)
    rw [← csI_full, csI, List.length_append, List.length_map]
    rw [List.length_range] at h2
    rw [Nat.succ_mul]
    omega
theorem csI_len (S n : Nat) (d : Nat → Int) (l : List (Int × Int)) (k i : Nat) : (csI S n d l k i).length ≤ k * n + i := by
  have h1 := csK_len S n d l k
  have h2 := List.length_filter_le (fun t => clB S d l k t) (List.range i)
  rw [List.length_range] at h2
  rw [csI, List.length_append, List.length_map]
  omega
theorem filter_range_le {n m : Nat} (h : n ≤ m) (p : Nat → Bool) (hp : ∀ t, n ≤ t → t < m → p t = false) : (List.range m).filter p = (List.range n).filter p := by
  obtain ⟨q, rfl⟩ : ∃ q, m = n + q := ⟨m - n, by omega⟩
  clear h
  induction q with
  | zero => rfl
  | succ q ih =>
    rw [← Nat.add_assoc, List.range_succ, List.filter_append, ih fun t h1 h2 => hp t h1 (by omega)]
    simp [hp (n + q) (by omega) (by omega)]
theorem cs_all {S : Nat} {d : Nat → Int} {l : List (Int × Int)} (hdr : drB (S : Int) l.length d = true) (hd : DWF d) (hS : S ≤ 96) (hl : l.length ≤ 24) : csK S l.length d l S = clsF S d l (pinsL d) := by
  have hrow : ∀ k, k < 96 → ((bitsL (d k).toNat).filter fun t => nextB S d k t (hRe l t).toNat) = (List.range l.length).filter fun t => clB S d l k t := by
    intro k hk
    unfold bitsL
    rw [List.filter_filter]
    have e : (fun t => nextB S d k t (hRe l t).toNat && (d k).toNat.testBit t) = fun t => clB S d l k t := by
      funext t
      rw [clB, pin_bit (hd k hk).1, Bool.and_comm]
    rw [e]
    refine filter_range_le (by omega) _ fun t h1 h2 => ?_
    cases hp : pinB d k t
    · simp [clB, hp]
    · have := (pin_in hdr hd hk hp).2
      omega
  have hz : ∀ k, S ≤ k → k < 96 → ((List.range l.length).filter fun t => clB S d l k t) = [] := by
    intro k h1 h2
    rw [List.filter_eq_nil_iff]
    intro t ht
    cases hp : pinB d k t
    · simp [clB, hp]
    · have := (pin_in hdr hd h2 hp).1
      omega
  have hT : ∀ n, n ≤ 96 → clsF S d l (pinsT d n) = csK S l.length d l n := by
    intro n
    induction n with
    | zero => intro _; rfl
    | succ n ih =>
      intro h
      rw [pinsT_succ, ← csI_full, csI, ← ih (by omega), ← hrow n (by omega)]
      unfold clsF
      rw [List.filter_append, List.filter_map]
      rfl
  have hE : ∀ q, S + q ≤ 96 → csK S l.length d l (S + q) = csK S l.length d l S := by
    intro q
    induction q with
    | zero => intro _; rfl
    | succ q ih =>
      intro h
      rw [← Nat.add_assoc, ← csI_full, csI, hz (S + q) (by omega) (by omega), ih (by omega)]
      simp
  have := hE (96 - S) (by omega)
  rw [show S + (96 - S) = 96 by omega] at this
  rw [← this]
  exact (hT 96 (Nat.le_refl _)).symm

set_option maxRecDepth 20000 in
set_option maxHeartbeats 2000000 in
theorem l02Clashes_any (b g : Nat) (S : Nat) (A : Option Addr) (c : Nat) (l : List (Int × Int)) (d : Nat → Int) (w : World) (hF : FP w b S A l.length c) (hD : Dr w g 43 d) (hA : HA w A l) (hS : 2 ≤ S ∧ S ≤ 96) (hl : l.length ≤ 24) (hg : HG S l l.length) (hdr : drB (S : Int) l.length d = true) (hd : DWF d) :
    Calls Tryd.prog 58 #[.pointer (some ⟨b, 0, none⟩), .pointer (some ⟨g, 0, none⟩)] w (OwnA w (clsF S d l (pinsL d))) := by
  obtain ⟨i0, hi, hz0, hz1, hz2⟩ := info_parts info130
  have HE := hide (cs_all (l := l) hdr hd hS.2 hl)
  have HGG := hide hg
  have hwS : IntKind.i64.wrap (S : Int) = (S : Int) := IntWalk.i64_in _ (by omega)
  have hal : Below w.heap.size w (w.alloc (.cells #[] 130)) := al_below _ _
  clear hg
  go_enter Tryd.func58, Tryd.ntmps58
  go_wp2_with fail
  go_loopw [5, 6] (fun v i wr => ∃ k : Nat, k ≤ S ∧ i = .int .i64 k ∧ wr.ownsRow w.heap.size 130 2 v (csK S l.length d l k).length (acells (csK S l.length d l k)) ∧ Below w.heap.size w wr)
    (fun _ i _ => S - (intOf i).toNat)
  case atStart => exact ⟨0, Nat.zero_le _, rfl, own_emptyA (Nat.le_refl _), hal⟩
  case round =>
    obtain ⟨k, hk, rfl, hown, hb⟩ := hrel
    obtain ⟨A1, c1, rfl⟩ := own_shape hown
    have F3 := hF.keep hb
    have e1 := F3.1
    have e2 := F3.2
    by_cases hlt : k < S
    · have hk1 : (k : Int) < (S : Int) := by omega
      have hk2 : decide ((k : Int) < (S : Int)) = true := decide_eq_true hk1
      go_wp2_with fail
      go_loopw [5, 7] (fun v i wq => ∃ t : Nat, t ≤ l.length ∧ i = .int .i64 t ∧ wq.ownsRow w.heap.size 130 2 v (csI S l.length d l k t).length (acells (csI S l.length d l k t)) ∧ Below w.heap.size w wq)
        (fun _ i _ => l.length - (intOf i).toNat)
      case atStart => exact ⟨0, Nat.zero_le _, rfl, by rw [csI_zero]; exact hown, hb⟩
      case round =>
        obtain ⟨t, ht, rfl, hown4, hb4⟩ := hrel
        obtain ⟨A2, c2, rfl⟩ := own_shape hown4
        have F4 := hF.keep hb4
        have D4 := hD.keep hb4
        have f2 := F4.2
        by_cases hlt2 : t < l.length
        · have hlen := csI_len S l.length d l k t
          have hbnd : k * l.length + t ≤ 96 * 24 := by
            have := Nat.mul_le_mul (show k ≤ 95 by omega) hl
            omega
          have KC : ∀ v, clB S d l k t = v → Calls Tryd.prog 77 #[.pointer (some ⟨b, 0, none⟩), .pointer (some ⟨g, 0, none⟩), .int .i64 k, .int .i64 t] wr (Says v wr) := fun v hv => by
            rw [← hv]; exact l02Clash_any b g S A c l d k t wr F4 D4 (hA.below hb4) hS hl HGG.out hlt hlt2 hd
          cases hf : clB S d l k t
          · have HT := hide (csI_no (n := l.length) hf)
            have KC' := KC false hf
            clear hf KC
            go_wp2_with fail
            refine KC'.mono ?_
            rintro e w6 ⟨rfl, hb6⟩
            have hown6 := own_keep hown4 hb6
            have hbb := step_below hb6 hb4
            go_wp2
            go_roundw
            case rel => exact ⟨t + 1, hlt2, by go_num, by rw [HT.out]; exact hown6, hbb⟩
            case measure => simp [intOf]; omega
          · have HT := hide (csI_yes (n := l.length) hf)
            have KC' := KC true hf
            clear hf KC
            go_wp2_with fail
            refine KC'.mono ?_
            rintro e w6 ⟨rfl, hb6⟩
            have hown6 := own_keep hown4 hb6
            have hbb := step_below hb6 hb4
            have hnew := cell_two_new w6 (.int .i64 (k : Int)) (.int .i64 (t : Int)) 130
            have own7 := hown6.alloc (.cells #[.int .i64 (k : Int), .int .i64 (t : Int)] 130)
            go_wp2_with (at_builtin; refine wpList_append_own _ rfl _ _ 112 rfl w.heap.size 130 i0 (.agg #[.int .i64 0, .int .i64 0]) 2 16 Tryd.underlying112 hi hz0 hz1 hz2 rfl (by decide) _ _ _ rfl own7 ⟨w6.heap.size, 0, none⟩ 1 1 [.int .i64 (k : Int), .int .i64 (t : Int)] rfl rfl hnew (fun x hx => by simp at hx; rcases hx with rfl | rfl <;> rfl) (by unfold maxLen; omega) (by omega) (by simp; have := hbb.size; omega) ?_; intro v' w8 hown8 hgrow8 hnil8)
            have hb8 := (hbb.alloc hbb.size (.cells #[.int .i64 (k : Int), .int .i64 (t : Int)] 130)).grown hgrow8 (by simp; have := hbb.size; omega) (fun j hj => (hown4.lt j hj).1)
            go_roundw
            case rel => exact ⟨t + 1, hlt2, by go_num, by rw [HT.out, List.length_append, acells_append]; exact hown8, hb8⟩
            case measure => simp [intOf]; omega
        · obtain rfl : t = l.length := by omega
          go_wp2
          go_roundw
          case rel => exact ⟨k + 1, hlt, by go_num, by rw [← csI_full]; exact hown4, hb4⟩
          case measure => simp [intOf]; omega
    · obtain rfl : k = S := by omega
      go_wp2
      go_ret
      exact ⟨A1, c1, by rw [← HE.out]; rfl, by rw [← HE.out]; exact hown, hb⟩
end Go.Proofs.YtdglhgfhlcdflaaDoor
namespace Go.Proofs.YtdglhgfhlcdflaaDoor
open Go.RowKit

/-- places as a list of numbers, two a place -/
def flatP (ps : List (Nat × Nat)) : List Int := ps.flatMap fun p => [(p.1 : Int), (p.2 : Int)]
theorem flatP_len (ps : List (Nat × Nat)) : (flatP ps).length = ps.length * 2 := by
  induction ps with
  | nil => rfl
  | cons p ps ih => simp only [flatP, List.flatMap_cons, List.length_append, List.length_cons, List.length_nil] at ih ⊢; omega
theorem acells_flat (ps : List (Nat × Nat)) : acells ps = icells (flatP ps) := by
  induction ps with
  | nil => rfl
  | cons p ps ih =>
    simp only [acells, flatP, icells, List.flatMap_cons, List.map_append] at ih ⊢
    rw [ih]
    rfl
/-- a slice's address under which pairs of numbers lie, in blocks below B -/
def SA (w : World) (B : Nat) (A : Option Addr) (n : Nat) (zs : List Int) : Prop := ∀ k, k < n → ∃ b, A = some ⟨b, 0, none⟩ ∧ b < B ∧ w.cell? ⟨b, k * 2, none⟩ = some (.int .i64 (zAt zs (k * 2))) ∧ w.cell? ⟨b, k * 2 + 1, none⟩ = some (.int .i64 (zAt zs (k * 2 + 1)))
theorem SA.below {w w' : World} {B n : Nat} {A : Option Addr} {zs : List Int} (h : SA w B A n zs) (hb : Below B w w') : SA w' B A n zs := fun k hk => by
  obtain ⟨b, h1, h2, h3, h4⟩ := h k hk
  exact ⟨b, h1, h2, (hb.cell (p := ⟨b, _, none⟩) h2).trans h3, (hb.cell (p := ⟨b, _, none⟩) h2).trans h4⟩
theorem SA.up {w : World} {B B' n : Nat} {A : Option Addr} {zs : List Int} (h : SA w B A n zs) (hB : B ≤ B') : SA w B' A n zs := fun k hk => by
  obtain ⟨b, h1, h2, h3⟩ := h k hk
  exact ⟨b, h1, by omega, h3⟩
theorem SA.of_own {w : World} {base n : Nat} {A : Option Addr} {c : Nat} {zs : List Int} (hz : zs.length = n * 2) (h : w.ownsRow base 130 2 (.slice A n c) n (icells zs)) : SA w w.heap.size A n zs := by
  intro k hk
  rcases h.2 with ⟨h', h0⟩ | ⟨g, cap, cur, h', hb, hg, _⟩
  · omega
  · simp only [Value.slice.injEq, true_and] at h'
    obtain ⟨rfl, rfl⟩ := h'
    refine ⟨g, rfl, (Array.getElem?_eq_some_iff.1 hg).1, ?_, ?_⟩
    · rw [h.cellAt (k * 2) (by omega), icells_get zs (k * 2) (by omega)]
    · rw [h.cellAt (k * 2 + 1) (by omega), icells_get zs (k * 2 + 1) (by omega)]

end Go.Proofs.YtdglhgfhlcdflaaDoor
