import Derived.Test.YtdglhgfhlcdflaaDoorPgf
import Derived.Test.YtdglhgfhlcdflaaDoorGax
import Derived.Test.YtdglhgfhlcdflaaDoorGbf
import Derived.Test.YtdglhgfhlcdflaaDoorGbh
import Derived.Test.YtdglhgfhlcdflaaDoorGbi
import Derived.Test.YtdglhgfhlcdflaaDoorGbe
namespace Go.Proofs.YtdglhgfhlcdflaaDoor
open Go.RowKit
theorem or_test32 (x y : Int) (hx : 0 ≤ x ∧ x ≤ 4294967295) (hy : 0 ≤ y ∧ y ≤ 4294967295) (t : Nat) : (bits .or .u32 x y).toNat.testBit t = (x.toNat.testBit t || y.toNat.testBit t) := by
  obtain ⟨a, ha⟩ : ∃ a : Nat, x = (a : Int) := ⟨x.toNat, by omega⟩
  obtain ⟨b, hb⟩ : ∃ b : Nat, y = (b : Int) := ⟨y.toNat, by omega⟩
  rw [ha, hb, or_nat a b (by omega) (by omega), Int.toNat_natCast, Int.toNat_natCast, Int.toNat_natCast, Nat.testBit_or]
theorem and_test32 (x y : Int) (hx : 0 ≤ x ∧ x ≤ 4294967295) (hy : 0 ≤ y ∧ y ≤ 4294967295) (t : Nat) : (bits .and .u32 x y).toNat.testBit t = (x.toNat.testBit t && y.toNat.testBit t) := by
  obtain ⟨a, ha⟩ : ∃ a : Nat, x = (a : Int) := ⟨x.toNat, by omega⟩
  obtain ⟨b, hb⟩ : ∃ b : Nat, y = (b : Int) := ⟨y.toNat, by omega⟩
  rw [ha, hb, and_nat a b (by omega) (by omega), Int.toNat_natCast, Int.toNat_natCast, Int.toNat_natCast, Nat.testBit_and]
theorem bits_in (op : BinOp) (x y : Int) : 0 ≤ bits op .u32 x y ∧ bits op .u32 x y ≤ 4294967295 := bounds_u32 (wf_bits op .u32 _ _)
/-- the tracks that are too near, after so many gaps -/
def bzI (S : Nat) (l : List (Int × Int)) (d : Nat → Int) (k : Nat) : Nat → Int
  | 0 => 0
  | g + 1 => bits .or .u32 (bzI S l d k g) (bits .and .u32 (bits .or .u32 (d ((k + g) % S)) (d ((k + S - g) % S))) (pgV l l.length g))
theorem bzI_in (S : Nat) (l : List (Int × Int)) (d : Nat → Int) (k : Nat) : ∀ g, 0 ≤ bzI S l d k g ∧ bzI S l d k g ≤ 4294967295
  | 0 => by simp [bzI]
  | g + 1 => bits_in _ _ _
def bzB (S : Nat) (l : List (Int × Int)) (d : Nat → Int) (k t g : Nat) : Bool := (List.range g).any fun h => frAt S d k t h && decide ((h : Int) < hRe l t)
theorem bzB_succ (S : Nat) (l : List (Int × Int)) (d : Nat → Int) (k t g : Nat) : bzB S l d k t (g + 1) = (bzB S l d k t g || (frAt S d k t g && decide ((g : Int) < hRe l t))) := by simp [bzB, List.range_succ]
theorem pgV_bit {l : List (Int × Int)} (hl : l.length ≤ 24) (g t : Nat) : (pgV l l.length g).toNat.testBit t = (decide (t < l.length) && decide ((g : Int) < hRe l t)) := by
  rw [pgV, Int.toNat_natCast, trkM_bit]
theorem pgU_bit {l : List (Int × Int)} (hl : l.length ≤ 24) (p t : Nat) : (pgU l l.length p).toNat.testBit t = (decide (t < l.length) && decide (hPi l t = (p : Int))) := by
  rw [pgU, Int.toNat_natCast, trkM_bit]
theorem bzI_bit {S : Nat} {l : List (Int × Int)} {d : Nat → Int} (hl : l.length ≤ 24) (hS : 2 ≤ S ∧ S ≤ 96) (hd : DWF d) (k t : Nat) : ∀ g, (bzI S l d k g).toNat.testBit t = (decide (t < l.length) && bzB S l d k t g)
  | 0 => by simp [bzI, bzB]
  | g + 1 => by
    have h1 : (k + g) % S < 96 := Nat.lt_of_lt_of_le (Nat.mod_lt _ (by omega)) hS.2
    have h2 : (k + S - g) % S < 96 := Nat.lt_of_lt_of_le (Nat.mod_lt _ (by omega)) hS.2
    have ih := bzI_bit hl hS hd k t g
    rw [bzI, or_test32 _ _ (bzI_in S l d k g) (bits_in _ _ _), and_test32 _ _ (bits_in _ _ _) (pgV_in l hl g), or_test32 _ _ (hd _ h1) (hd _ h2), ih, pgV_bit hl, bzB_succ, frAt, pin_bit (hd _ h1).1, pin_bit (hd _ h2).1]
    cases decide (t < l.length) <;> simp
/-- where no track is not ready any more, all that is too near is told -/
theorem bz_free {S : Nat} {l : List (Int × Int)} {d : Nat → Int} {k t g : Nat} (hr : 0 ≤ hRe l t) (hg : hRe l t ≤ (g : Int)) : bzB S l d k t g = !freeB S d (hRe l t).toNat k t := by
  obtain ⟨r, hr2⟩ : ∃ r : Nat, hRe l t = (r : Int) := ⟨(hRe l t).toNat, by omega⟩
  rw [hr2, Int.toNat_natCast]
  have hrg : r ≤ g := by omega
  unfold bzB freeB
  rw [Bool.eq_iff_iff]
  simp only [hr2, List.any_eq_true, List.mem_range, Bool.and_eq_true, decide_eq_true_eq, Bool.not_eq_true', List.all_eq_false, Bool.not_eq_true, Bool.not_eq_false']
  constructor
  · rintro ⟨h, h1, h2, h3⟩
    exact ⟨h, by omega, by simpa using h2⟩
  · rintro ⟨h, h1, h2⟩
    exact ⟨h, by omega, by simpa using h2, by omega⟩
theorem pgV_none {l : List (Int × Int)} (hl : l.length ≤ 24) {g : Nat} (h : pgV l l.length g = 0) {t : Nat} (ht : t < l.length) : hRe l t ≤ (g : Int) := by
  have h1 := pgV_bit hl g t
  rw [h] at h1
  simp [ht] at h1
  omega
/-- the gap behind which all hammers are ready -/
def bzG (l : List (Int × Int)) : Nat := ((List.range 20).find? fun g => decide (pgV l l.length g = 0)).getD 20
theorem bzG_brk {l : List (Int × Int)} {g : Nat} (hg : g < 20) (hall : ∀ h, h < g → pgV l l.length h ≠ 0) (h : pgV l l.length g = 0) : bzG l = g := by
  have : (List.range 20).find? (fun g => decide (pgV l l.length g = 0)) = some g := by
    rw [List.find?_range_eq_some]
    exact ⟨by simp [h], List.mem_range.2 hg, fun j hj => by simp [hall j hj]⟩
  rw [bzG, this]
  rfl
theorem bzG_end {l : List (Int × Int)} (hall : ∀ h, h < 20 → pgV l l.length h ≠ 0) : bzG l = 20 := by
  have : (List.range 20).find? (fun g => decide (pgV l l.length g = 0)) = none := by
    rw [List.find?_eq_none]
    intro j hj
    simp [hall j (List.mem_range.1 hj)]
  rw [bzG, this]
  rfl
theorem bzG_all {s : Int} {l : List (Int × Int)} (hl : l.length ≤ 24) (hg : HG s l l.length) : ∀ t, t < l.length → 0 ≤ hRe l t ∧ hRe l t ≤ (bzG l : Int) := by
  intro t ht
  have h1 := (hg.at ht).2
  refine ⟨by omega, ?_⟩
  unfold bzG
  cases hf : (List.range 20).find? (fun g => decide (pgV l l.length g = 0)) with
  | none => simp only [Option.getD_none]; omega
  | some g =>
    have h2 := List.find?_some hf
    simp only [decide_eq_true_eq] at h2
    simp only [Option.getD_some]
    exact pgV_none hl h2 ht
/-- the tracks that a note can have -/
def grB (S : Nat) (l : List (Int × Int)) (d : Nat → Int) (k : Nat) (p : Int) (t : Nat) : Bool := decide (hPi l t = p) && freeB S d (hRe l t).toNat k t
def grL (S : Nat) (l : List (Int × Int)) (d : Nat → Int) (k : Nat) (p : Int) : List Nat := (List.range l.length).filter (grB S l d k p)
theorem filter_cutG (q : Nat → Bool) (n : Nat) : ∀ m, n ≤ m → (List.range m).filter (fun t => decide (t < n) && q t) = (List.range n).filter q
  | m, h => by
    induction m with
    | zero =>
      obtain rfl : n = 0 := by omega
      rfl
    | succ m ih =>
      by_cases e : n = m + 1
      · subst e
        exact List.filter_congr fun t ht => by simp [List.mem_range.1 ht]
      · rw [List.range_succ, List.filter_append, ih (by omega)]
        have : decide (m < n) = false := by simp; omega
        simp [this]
/-- the free tracks of a pitch, as a number -/
theorem gr_bits {S : Nat} {l : List (Int × Int)} {d : Nat → Int} {k P g : Nat} (hl : l.length ≤ 24) (hS : 2 ≤ S ∧ S ≤ 96) (hd : DWF d) (hg : ∀ t, t < l.length → 0 ≤ hRe l t ∧ hRe l t ≤ (g : Int)) :
    ∃ x : Nat, bits .andNot .u32 (pgU l l.length P) (bzI S l d k g) = (x : Int) ∧ x < 4294967296 ∧ bitsL x = grL S l d k P := by
  have hb := bits_in .andNot (pgU l l.length P) (bzI S l d k g)
  obtain ⟨x, hx⟩ : ∃ x : Nat, bits .andNot .u32 (pgU l l.length P) (bzI S l d k g) = (x : Int) := ⟨(bits .andNot .u32 (pgU l l.length P) (bzI S l d k g)).toNat, by omega⟩
  refine ⟨x, hx, by omega, ?_⟩
  have h1 := pgU_in l hl P
  have h2 := bzI_in S l d k g
  obtain ⟨a, ha⟩ : ∃ a : Nat, pgU l l.length P = (a : Int) := ⟨(pgU l l.length P).toNat, by omega⟩
  obtain ⟨b, hb2⟩ : ∃ b : Nat, bzI S l d k g = (b : Int) := ⟨(bzI S l d k g).toNat, by omega⟩
  unfold bitsL grL
  rw [← filter_cutG (grB S l d k P) l.length 32 (by omega)]
  refine List.filter_congr fun t _ => ?_
  have h3 := andnot_test a b t (by omega) (by omega)
  rw [← ha, ← hb2, hx, Int.toNat_natCast] at h3
  have h4 := pgU_bit hl P t
  rw [ha, Int.toNat_natCast] at h4
  have h5 := bzI_bit hl hS hd k t g
  rw [hb2, Int.toNat_natCast] at h5
  rw [h3, h4, h5, grB]
  by_cases ht : t < l.length
  · rw [bz_free (hg t ht).1 (hg t ht).2]
    cases decide (hPi l t = (P : Int)) <;> simp [ht]
  · simp [ht]
/-- the free tracks, as the program's number -/
def frI (S : Nat) (l : List (Int × Int)) (d : Nat → Int) (k P : Nat) : Int := bits .andNot .u32 (pgU l l.length P) (bzI S l d k (bzG l))
theorem fr_bits {S : Nat} {l : List (Int × Int)} {d : Nat → Int} {k P : Nat} (hl : l.length ≤ 24) (hg : HG (S : Int) l l.length) (hS : 2 ≤ S ∧ S ≤ 96) (hd : DWF d) : ∃ x : Nat, frI S l d k P = (x : Int) ∧ x < 4294967296 ∧ bitsL x = grL S l d k P := gr_bits hl hS hd (bzG_all hl hg)
/-- the drum that is made greedily, for the notes ahead of i -/
def gdD (S : Nat) (l L : List (Int × Int)) : Nat → Nat → Int
  | 0 => fun _ => 0
  | i + 1 => togD (gdD S l L i) (nAt L i).toNat ((grL S l (gdD S l L i) (nAt L i).toNat (nPi L i)).headD 0)
def gdT (S : Nat) (l L : List (Int × Int)) (i : Nat) : List Nat := grL S l (gdD S l L i) (nAt L i).toNat (nPi L i)
def gdO (S : Nat) (l L : List (Int × Int)) (i : Nat) : Bool := decide (0 < (gdT S l L i).length)
theorem gdD_wf (S : Nat) (l L : List (Int × Int)) : ∀ i, DWF (gdD S l L i)
  | 0 => fun _ _ => by simp [gdD]
  | i + 1 => tog_wf (gdD_wf S l L i) _ _
theorem gdD_succ (S : Nat) (l L : List (Int × Int)) (i : Nat) {t : Nat} {ts : List Nat} (h : gdT S l L i = t :: ts) : gdD S l L (i + 1) = togD (gdD S l L i) (nAt L i).toNat t := by
  have h1 : grL S l (gdD S l L i) (nAt L i).toNat (nPi L i) = t :: ts := h
  simp only [gdD, h1, List.headD_cons]
theorem gdT_in {S : Nat} {l L : List (Int × Int)} {i t : Nat} {ts : List Nat} (h : gdT S l L i = t :: ts) : t < l.length ∧ hPi l t = nPi L i ∧ freeB S (gdD S l L i) (hRe l t).toNat (nAt L i).toNat t = true := by
  have h1 : t ∈ gdT S l L i := by rw [h]; simp
  simp only [gdT, grL, List.mem_filter, List.mem_range, grB, Bool.and_eq_true, decide_eq_true_eq] at h1
  exact ⟨h1.1, h1.2.1, h1.2.2⟩
/-- at a free place there is no pin -/
theorem free_pin {S : Nat} {d : Nat → Int} {r k t : Nat} (hk : k < S) (hr : 1 ≤ r) (h : freeB S d r k t = true) : pinB d k t = false := by
  unfold freeB at h
  rw [List.all_eq_true] at h
  have h1 := h 0 (List.mem_range.2 (by omega))
  rw [frAt_zero hk] at h1
  simpa using h1
/-- the first note without a track -/
def gdF (S : Nat) (l L : List (Int × Int)) : Option Nat := (List.range L.length).find? fun i => !gdO S l L i
theorem gdF_some {S : Nat} {l L : List (Int × Int)} {i : Nat} (hi : i < L.length) (hall : ∀ j, j < i → gdO S l L j = true) (h : gdO S l L i = false) : gdF S l L = some i := by
  unfold gdF
  rw [List.find?_range_eq_some]
  exact ⟨by simp [h], List.mem_range.2 hi, fun j hj => by simp [hall j hj]⟩
theorem gdF_none {S : Nat} {l L : List (Int × Int)} (hall : ∀ j, j < L.length → gdO S l L j = true) : gdF S l L = none := by
  unfold gdF
  rw [List.find?_eq_none]
  intro j hj
  simp [hall j (List.mem_range.1 hj)]
def guC (s : Int) (l L : List (Int × Int)) : Int := if pgK s l true L = 0 then (if (gdF s.toNat l L).isSome then 0 else 6) else pgK s l true L
def guV (s : Int) (l L : List (Int × Int)) : Int := if guC s l L = 0 then (((gdF s.toNat l L).getD 0 : Nat) : Int) else 0
def gpC (s : Int) (l L : List (Int × Int)) : Int := if pgK s l true L = 0 then (if (gdF s.toNat l L).isSome then 6 else 0) else pgK s l true L
def gpD (s : Int) (l L : List (Int × Int)) : Nat → Int := if gpC s l L = 0 then gdD s.toNat l L L.length else fun _ => 0
theorem pgK_zero {s : Int} {l L : List (Int × Int)} {b : Bool} (h : pgK s l b L = 0) : frB s l = true ∧ okB L = true ∧ lenI L ≤ s := by
  unfold pgK at h
  split at h
  · rename_i h1
    simp only [Bool.and_eq_true] at h1
    split at h
    · rename_i h2
      exact ⟨h1.1.1, h1.2, h2⟩
    · cases h
  · cases h
theorem pgK_cases (s : Int) (l : List (Int × Int)) (b : Bool) (L : List (Int × Int)) : pgK s l b L = 0 ∨ pgK s l b L = 1 ∨ pgK s l b L = 2 := by
  unfold pgK
  split
  · split
    · exact Or.inl rfl
    · exact Or.inr (Or.inr rfl)
  · exact Or.inr (Or.inl rfl)
end Go.Proofs.YtdglhgfhlcdflaaDoor
namespace Go.Proofs.YtdglhgfhlcdflaaDoor
open Go.RowKit

def ipB (s : Int) (l : List (Int × Int)) (d : Nat → Int) : Bool := askB s l d && decide ((clsF s.toNat d l (pinsL d)).length = 0)
theorem pins_zero : pinsL (fun _ => 0) = [] := by
  have : ∀ n, pinsT (fun _ => 0) n = [] := by
    intro n
    induction n with
    | zero => rfl
    | succ n ih => rw [pinsT_succ, ih]; simp [bitsL_zero]
  exact this 96
theorem same_empty (S : Nat) (d : Nat → Int) (l : List (Int × Int)) (hd : DWF d) : sameD (clD S d l) (fun _ => 0) = decide ((clsF S d l (pinsL d)).length = 0) := by
  rw [Bool.eq_iff_iff, decide_eq_true_eq]
  constructor
  · intro h
    have h1 := (sameD_iff _ _).1 h
    have h2 : pinsL (clD S d l) = pinsL (fun _ => 0) := by
      have : ∀ n, n ≤ 96 → pinsT (clD S d l) n = pinsT (fun _ => 0) n := by
        intro n
        induction n with
        | zero => intro _; rfl
        | succ n ih => intro hn; rw [pinsT_succ, pinsT_succ, ih (by omega), da_inj h1 n (by omega)]
      exact this 96 (Nat.le_refl _)
    rw [← clD_pins S d l hd, h2, pins_zero]; rfl
  · intro h
    have h1 : clsF S d l (pinsL d) = [] := List.eq_nil_of_length_eq_zero h
    rw [sameD_iff]
    unfold clD
    rw [h1]
    rfl

end Go.Proofs.YtdglhgfhlcdflaaDoor
