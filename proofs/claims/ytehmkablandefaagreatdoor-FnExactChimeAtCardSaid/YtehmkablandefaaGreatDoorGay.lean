import Derived.Test.YtehmkablandefaaGreatDoorGaq
import Derived.Deep.RegionHeld3
import Derived.Test.YtehmkablandefaaGreatDoorNts
import Derived.Test.YtehmkablandefaaGreatDoorGax
import Derived.Test.YtehmkablandefaaGreatDoorSru
import Derived.Test.YtehmkablandefaaGreatDoorGat
namespace Go.Proofs.YtehmkablandefaaGreatDoor
open Go.RowKit Go.Shelf
attribute [local go_sem] Oper.semAt_some

/-- the places of the first k steps at which P says so, by step, then by track -/
def gK (P : Nat → Nat → Bool) (n k : Nat) : List (Nat × Nat) := (List.range k).flatMap fun j => ((List.range n).filter fun t => P j t).map fun t => (j, t)
def gI (P : Nat → Nat → Bool) (n k i : Nat) : List (Nat × Nat) := gK P n k ++ ((List.range i).filter fun t => P k t).map fun t => (k, t)
theorem gI_zero (P : Nat → Nat → Bool) (n k : Nat) : gI P n k 0 = gK P n k := by simp [gI]
theorem gI_full (P : Nat → Nat → Bool) (n k : Nat) : gI P n k n = gK P n (k + 1) := by simp [gI, gK, List.range_succ, List.flatMap_append]
theorem gI_yes {P : Nat → Nat → Bool} {n k i : Nat} (h : P k i = true) : gI P n k (i + 1) = gI P n k i ++ [(k, i)] := by
  simp [gI, List.range_succ, List.filter_append, h]
theorem gI_no {P : Nat → Nat → Bool} {n k i : Nat} (h : P k i = false) : gI P n k (i + 1) = gI P n k i := by
  simp [gI, List.range_succ, List.filter_append, h]
theorem gK_len (P : Nat → Nat → Bool) (n : Nat) : ∀ k, (gK P n k).length ≤ k * n
  | 0 => by simp [gK]
  | k + 1 => by
    have h1 := gK_len P n k
    have h2 := List.length_filter_le (fun t => P k t) (List.range n)
    rw [← gI_full, gI, List.length_append, List.length_map]
    rw [List.length_range] at h2
    rw [Nat.succ_mul]
    omega
theorem gI_len (P : Nat → Nat → Bool) (n k i : Nat) : (gI P n k i).length ≤ k * n + i := by
  have h1 := gK_len P n k
  have h2 := List.length_filter_le (fun t => P k t) (List.range i)
  rw [List.length_range] at h2
  rw [gI, List.length_append, List.length_map]
  omega
theorem g_all {P : Nat → Nat → Bool} {S n : Nat} {e : Nat → Int} (he : DWF e) (hP : ∀ k t, P k t = pinB e k t) (hin : ∀ k t, k < 96 → pinB e k t = true → k < S ∧ t < n) (hS : S ≤ 96) (hl : n ≤ 32) : gK P n S = pinsL e := by
  have hrow : ∀ k, k < 96 → bitsL (e k).toNat = (List.range n).filter fun t => P k t := by
    intro k hk
    unfold bitsL
    have e1 : (fun t => (e k).toNat.testBit t) = fun t => P k t := by
      funext t
      rw [hP, pin_bit (he k hk).1]
    rw [e1]
    refine filter_range_le hl _ fun t h1 h2 => ?_
    rw [hP]
    cases hp : pinB e k t
    · rfl
    · have := (hin k t hk hp).2
      omega
  have hz : ∀ k, S ≤ k → k < 96 → ((List.range n).filter fun t => P k t) = [] := by
    intro k h1 h2
    rw [List.filter_eq_nil_iff]
    intro t ht
    rw [hP]
    intro hp
    have := (hin k t h2 hp).1
    omega
  have hT : ∀ m, m ≤ 96 → pinsT e m = gK P n m := by
    intro m
    induction m with
    | zero => intro _; rfl
    | succ m ih =>
      intro h
      rw [pinsT_succ, ← gI_full, gI, ← ih (by omega), ← hrow m (by omega)]
  have hE : ∀ q, S + q ≤ 96 → gK P n (S + q) = gK P n S := by
    intro q
    induction q with
    | zero => intro _; rfl
    | succ q ih =>
      intro h
      rw [← Nat.add_assoc, ← gI_full, gI, hz (S + q) (by omega) (by omega), ih (by omega)]
      simp
  have := hE (96 - S) (by omega)
  rw [show S + (96 - S) = 96 by omega] at this
  rw [← this]
  exact (hT 96 (Nat.le_refl _)).symm
theorem andnot_test (a b t : Nat) (ha : a < 4294967296) (hb : b < 4294967296) : (bits .andNot .u32 (a : Int) (b : Int)).toNat.testBit t = (a.testBit t && !b.testBit t) := by
  have hx : a &&& (2 ^ 32 - (b + 1)) < 2 ^ 32 := Nat.and_lt_two_pow _ (by omega)
  have e : bits .andNot .u32 (a : Int) (b : Int) = ((a &&& (2 ^ 32 - (b + 1)) : Nat) : Int) := by
    show IntKind.u32.wrap ((BitVec.ofInt 32 (a : Int) &&& ~~~ BitVec.ofInt 32 (b : Int)).toNat : Int) = _
    rw [BitVec.toNat_and, BitVec.toNat_not, of32 a ha, of32 b hb, wrap32]
    rw [show 2 ^ 32 - 1 - b = 2 ^ 32 - (b + 1) by omega]
    omega
  rw [e, Int.toNat_natCast, Nat.testBit_and, Nat.testBit_two_pow_sub_succ (by omega)]
  rcases Nat.lt_or_ge t 32 with h | h
  · simp [h]
  · have : a.testBit t = false := Nat.testBit_lt_two_pow (Nat.lt_of_lt_of_le (show a < 2 ^ 32 by omega) (Nat.pow_le_pow_right (by omega) h))
    simp [this]
/-- a pin of a, none of b -/
def onlB (a b : Nat → Int) (k t : Nat) : Bool := pinB a k t && !pinB b k t
theorem mvD_pin {a b : Nat → Int} (ha : DWF a) (hb : DWF b) {k : Nat} (hk : k < 96) (t : Nat) : pinB (mvD a b) k t = onlB a b k t := by
  rw [onlB, pin_bit (mv_wf a b k hk).1, pin_bit (ha k hk).1, pin_bit (hb k hk).1]
  obtain ⟨x, hx⟩ := Int.eq_ofNat_of_zero_le (ha k hk).1
  obtain ⟨y, hy⟩ := Int.eq_ofNat_of_zero_le (hb k hk).1
  have h1 := (ha k hk).2
  have h2 := (hb k hk).2
  unfold mvD
  rw [hx, hy, andnot_test x y t (by omega) (by omega), Int.toNat_natCast, Int.toNat_natCast]
def onlP (a b : Nat → Int) (k t : Nat) : Bool := pinB (mvD a b) k t
theorem onl_all {S n : Nat} {a b : Nat → Int} (ha : DWF a) (hb : DWF b) (hdr : drB (S : Int) n a = true) (hS : S ≤ 96) (hl : n ≤ 24) : gK (onlP a b) n S = pinsL (mvD a b) := by
  refine g_all (mv_wf a b) (fun _ _ => rfl) ?_ hS (by omega)
  intro k t hk hp
  rw [mvD_pin ha hb hk, onlB, Bool.and_eq_true] at hp
  have := pin_in hdr ha hk hp.1
  exact ⟨by omega, this.2⟩

end Go.Proofs.YtehmkablandefaaGreatDoor

namespace Go.Proofs.YtehmkablandefaaGreatDoor
open Go.RowKit

/-- the marks from o on -/
def mkO (o n : Nat) : List Int := (List.range n).map fun (i : Nat) => (o : Int) + (i : Int)
def mkOT (o : Nat) (zs : List Int) (k : Nat) : List Int := mkO o k ++ zs.drop k
theorem mkO_length (o n : Nat) : (mkO o n).length = n := by simp [mkO]
theorem mkO_at (o n k : Nat) (h : k < n) : zAt (mkO o n) k = (o : Int) + (k : Int) := by simp [zAt, mkO, h]
theorem mkOT_zero (o : Nat) (zs : List Int) : mkOT o zs 0 = zs := by simp [mkOT, mkO]
theorem mkOT_all (o : Nat) (zs : List Int) : mkOT o zs zs.length = mkO o zs.length := by simp [mkOT]
theorem mkOT_length (o : Nat) (zs : List Int) (k : Nat) (h : k ≤ zs.length) : (mkOT o zs k).length = zs.length := by
  simp [mkOT, mkO_length]; omega
theorem mkOT_set (o : Nat) (zs : List Int) (k : Nat) (h : k < zs.length) : (mkOT o zs k).set k ((o : Int) + (k : Int)) = mkOT o zs (k + 1) := by
  unfold mkOT mkO
  rw [List.set_append_right _ _ (by simp), List.range_succ, List.map_append, List.length_map, List.length_range, Nat.sub_self, List.drop_eq_getElem_cons h, List.set_cons_zero, List.append_assoc]
  rfl

end Go.Proofs.YtehmkablandefaaGreatDoor

namespace Go.Proofs.YtehmkablandefaaGreatDoor
open Go.RowKit

def mbL (s : Int) (l : List (Int × Int)) (a b p q : Nat → Int) : List (Nat × Nat) := if ask2B s l a b then pinsL (mvD p q) else []
theorem mbL_len (s : Int) (l : List (Int × Int)) (a b p q : Nat → Int) : (mbL s l a b p q).length ≤ 4000 := by
  unfold mbL
  split
  · exact pinsL_len _
  · simp
end Go.Proofs.YtehmkablandefaaGreatDoor
namespace Go.Proofs.YtehmkablandefaaGreatDoor
open Go.RowKit
/-- the notes of a drum -/
def toL (l : List (Int × Int)) (d : Nat → Int) : List (Int × Int) := noL l (pinsL d)
def toC (s : Int) (l : List (Int × Int)) (d : Nat → Int) : Int := if askB s l d then mkC (toL l d) else 1
def toV (s : Int) (l : List (Int × Int)) (d : Nat → Int) : List (Int × Int) := if askB s l d then mkV (toL l d) else []
theorem toL_len (l : List (Int × Int)) (d : Nat → Int) : (toL l d).length ≤ 4000 := by
  have := pinsL_len d
  rw [toL, noL_len]
  exact this
theorem toV_len (s : Int) (l : List (Int × Int)) (d : Nat → Int) : (toV s l d).length ≤ 1048576 := by
  unfold toV
  split
  · have h1 := mkV_le (toL l d)
    have h2 := toL_len l d
    omega
  · simp
theorem toL_mem {S : Int} {l : List (Int × Int)} {d : Nat → Int} (hg : HG S l l.length) (hdr : drB S l.length d = true) (hd : DWF d) {x : Int × Int} (h : x ∈ toL l d) : (0 ≤ x.1 ∧ x.1 ≤ 199) ∧ (0 ≤ x.2 ∧ x.2 ≤ 47) := by
  unfold toL noL at h
  obtain ⟨p, hp, rfl⟩ := List.mem_map.1 h
  have h1 := (pinsT_mem (k := p.1) (t := p.2) hd 96 (Nat.le_refl _)).1 hp
  have h2 := pin_in hdr hd h1.1 h1.2.2
  have h3 := (hg.at h2.2).1
  dsimp only
  omega
theorem note_mem (l : List (Int × Int)) (j : Nat) (h : j < l.length) : (nAt l j, nPi l j) ∈ l := List.mem_of_getElem? (getN l j h)
theorem toL_range {S : Int} {l : List (Int × Int)} {d : Nat → Int} (hg : HG S l l.length) (hdr : drB S l.length d = true) (hd : DWF d) : rangeB (toL l d) = true := by
  refine rangeB_yes _ fun j hj => ?_
  have := toL_mem hg hdr hd (note_mem _ j hj)
  simp only [noteB, decide_eq_true_eq]
  exact this
theorem toL_wf {S : Int} {l : List (Int × Int)} {d : Nat → Int} (hg : HG S l l.length) (hdr : drB S l.length d = true) (hd : DWF d) : WF (toL l d) := by
  intro j hj
  have := toL_mem hg hdr hd (note_mem _ j hj)
  dsimp only at this
  omega
theorem to_all {S : Nat} {l : List (Int × Int)} {d : Nat → Int} (hdr : drB (S : Int) l.length d = true) (hd : DWF d) (hS : S ≤ 96) (hl : l.length ≤ 24) : gK (pinB d) l.length S = pinsL d :=
  g_all hd (fun _ _ => rfl) (fun k t hk hp => by have := pin_in hdr hd hk hp; omega) (by omega) (by omega)
end Go.Proofs.YtehmkablandefaaGreatDoor
namespace Go.Proofs.YtehmkablandefaaGreatDoor
open Go.RowKit

theorem okB_eq (l : List (Int × Int)) : okB l = (decide (l.length ≤ 120) && rangeB l && ascB l) := by
  have : (List.range l.length).all (good l) = (rangeB l && ascB l) := by
    rw [Bool.eq_iff_iff]
    simp only [good, rangeB, ascB, List.all_eq_true, List.mem_range, Bool.and_eq_true]
    exact ⟨fun h => ⟨fun j hj => (h j hj).1, fun j hj => (h j hj).2⟩, fun h j hj => ⟨h.1 j hj, h.2 j hj⟩⟩
  rw [okB, this, Bool.and_comm, Bool.and_assoc]

end Go.Proofs.YtehmkablandefaaGreatDoor
namespace Go.Proofs.YtehmkablandefaaGreatDoor
open Go.RowKit
/-- block g holds one number -/
def Nb (w : World) (g : Nat) (x : Int) : Prop := w.cell? ⟨g, 0, none⟩ = some (.int .i64 x) ∧ g < w.heap.size
theorem Nb.keep {w w' : World} {g : Nat} {x : Int} (h : Nb w g x) (hb : Below w.heap.size w w') : Nb w' g x := ⟨(hb.cell (p := ⟨g, 0, none⟩) h.2).trans h.1, Nat.lt_of_lt_of_le h.2 hb.size⟩
def shP (d p : Int) (a q : Int) : Int × Int := (a + d, q + p)
set_option maxRecDepth 20000 in
theorem shifted1_any (g h : Nat) (d p a q : Int) (w : World) (h1 : Nb w g d) (h2 : Nb w h p) (hd : -100000 ≤ d ∧ d ≤ 100000) (hp : -100000 ≤ p ∧ p ≤ 100000) (ha : -32768 ≤ a ∧ a ≤ 32767) (hq : -128 ≤ q ∧ q ≤ 127) :
    Calls Tryz.prog 89 #[.int .i64 a, .int .i64 q, .pointer (some ⟨g, 0, none⟩), .pointer (some ⟨h, 0, none⟩)] w fun e w' => e = .returned (.tuple #[.int .i64 (a + d), .int .i64 (q + p)]) ∧ Below w.heap.size w w' := by
  have e1 := Later.cell h1.1
  have e2 := Later.cell h2.1
  have hw1 : IntKind.i64.wrap (a + d) = a + d := IntWalk.i64_in _ (by omega)
  have hw2 : IntKind.i64.wrap (q + p) = q + p := IntWalk.i64_in _ (by omega)
  clear h1 h2
  go_enter Tryz.func89, Tryz.ntmps89
  go_wp2_with fail
  refine wp_region_later (by kernel_rfl) (by kernel_rfl) ?_
  repeat (go_big_quiet_step (fail))
  refine wpQuiet_nil ?_
  rintro wz ⟨⟨_, hq'⟩, rfl⟩
  go_wp2
  go_ret2
  exact ⟨rfl, hq'⟩
set_option maxRecDepth 20000 in
set_option maxHeartbeats 1000000 in
theorem shifted_any (d p : Int) (A : Option Addr) (c : Nat) (l : List (Int × Int)) (w : World) (hA : NA w A l) (hn : l.length ≤ 1048576) (hwf : WF l) (hd : -100000 ≤ d ∧ d ≤ 100000) (hp : -100000 ≤ p ∧ p ≤ 100000) :
    Calls Tryz.prog 71 #[.slice A l.length c, .int .i64 d, .int .i64 p] w (OwnN w (chV (shP d p) l) (chC (shP d p) l)) := by
  have hmf : ∀ (fn : Fn) (first cap : Array Value) (w : World), (Instr.makeFunc fn first cap).run Tryz.prog w = .ok (.func fn first cap) w := fun _ _ _ _ => rfl
  have eg : ∀ args w, (callFunc 89 args).run Tryz.prog w = .ok (.enter 89 args) w := fun _ _ => by kernel_rfl
  obtain ⟨X, hX⟩ : ∃ X, X = (w.alloc (.cells #[.int .i64 d] 2)).alloc (.cells #[.int .i64 p] 2) := ⟨_, rfl⟩
  have hb0 : Below w.heap.size w X := by rw [hX]; exact ((Below.refl _ _).alloc (Nat.le_refl _) _).alloc (by simp) _
  have N1 : Nb X w.heap.size d := by rw [hX]; exact ⟨by simp [go_sem, World.cell?_alloc_past], by simp; omega⟩
  have N2 : Nb X (w.heap.size + 1) p := by rw [hX]; exact ⟨by simp [go_sem], by simp⟩
  have hpl : PlaceOf 89 #[.pointer (some ⟨w.heap.size, 0, none⟩), .pointer (some ⟨w.heap.size + 1, 0, none⟩)] (shP d p) l X := fun W hW k hk =>
    shifted1_any w.heap.size (w.heap.size + 1) d p (nAt l k) (nPi l k) W (N1.keep hW) (N2.keep hW) hd hp (hwf k hk).1 (hwf k hk).2
  have KC := changed_any 89 #[.pointer (some ⟨w.heap.size, 0, none⟩), .pointer (some ⟨w.heap.size + 1, 0, none⟩)] (shP d p) A c l X (hA.below hb0) hn hwf eg hpl
  obtain ⟨V, hV⟩ : ∃ V, V = chV (shP d p) l := ⟨_, rfl⟩
  obtain ⟨C, hC⟩ : ∃ C, C = chC (shP d p) l := ⟨_, rfl⟩
  rw [← hV, ← hC] at KC ⊢
  clear hpl hV hC
  go_enter Tryz.func71, Tryz.ntmps71
  go_upto_region 1 with fail
  rw [← hX]
  clear hX
  go_wp2_with fail
  refine KC.mono ?_
  rintro e w1 ⟨C1, q1, rfl, own1, hb1⟩
  go_wp2
  go_ret2
  exact ⟨C1, q1, rfl, own_base own1 hb0.size, step_below hb1 hb0⟩
/-! ascending tunes -/
theorem asc_of_ok {l : List (Int × Int)} (h : okB l = true) : AscN l := by
  simp only [okB, Bool.and_eq_true, List.all_eq_true, List.mem_range, good, Bool.or_eq_true, decide_eq_true_eq] at h
  have adj : ∀ j, 0 < j → j < l.length → ltN (nAt l (j - 1), nPi l (j - 1)) (nAt l j, nPi l j) := fun j h0 hj => by
    rcases (h.1 j hj).2 with e | e
    · omega
    · exact (befB_iff _ _ _ _).1 e
  have hget : ∀ j (hj : j < l.length), l[j] = (nAt l j, nPi l j) := fun j hj => by simp [nAt, nPi, List.getD, hj]
  refine List.pairwise_iff_getElem.2 fun i j hi hj hij => ?_
  have all : ∀ m, i < m → m < l.length → ltN (nAt l i, nPi l i) (nAt l m, nPi l m) := by
    intro m
    induction m with
    | zero => intro h0 _; omega
    | succ m ih =>
      intro h1 h2
      have ha := adj (m + 1) (by omega) h2
      rw [Nat.add_sub_cancel] at ha
      rcases Nat.lt_or_ge i m with h3 | h3
      · exact ltN_trans (ih h3 (by omega)) ha
      · obtain rfl : i = m := by omega
        exact ha
  rw [hget i hi, hget j hj]
  exact all j hij hj
theorem ok_in {l : List (Int × Int)} (h : okB l = true) (k : Nat) (hk : k < l.length) : (0 ≤ nAt l k ∧ nAt l k ≤ 199) ∧ (0 ≤ nPi l k ∧ nPi l k ≤ 47) := by
  simp only [okB, Bool.and_eq_true, List.all_eq_true, List.mem_range, good, decide_eq_true_eq] at h
  simpa [noteB] using (h.1 k hk).1
theorem ok_len {l : List (Int × Int)} (h : okB l = true) : l.length ≤ 120 := by
  simp only [okB, Bool.and_eq_true, decide_eq_true_eq] at h
  exact h.2
theorem chL_map (pf : Int → Int → Int × Int) (l : List (Int × Int)) : chL pf l l.length = l.map fun x => pf x.1 x.2 := by
  apply List.ext_getElem
  · simp [chL]
  · intro i h1 h2
    have hi : i < l.length := by simpa [chL] using h1
    simp [chL, nAt, nPi, List.getD, hi]
theorem chL_asc {pf : Int → Int → Int × Int} {l : List (Int × Int)} (h : AscN l) (hm : ∀ x y, x ∈ l → y ∈ l → ltN x y → ltN (pf x.1 x.2) (pf y.1 y.2)) : AscN (chL pf l l.length) := by
  rw [chL_map]
  refine List.pairwise_map.2 ?_
  exact List.Pairwise.imp_of_mem (fun {x y} hx hy hxy => hm x y hx hy hxy) h
theorem chV_asc {pf : Int → Int → Int × Int} {l : List (Int × Int)} (h : AscN (chL pf l l.length)) : chV pf l = chW pf l := by
  unfold chV chW
  rw [srtN_id _ h]
theorem sh_asc {d p : Int} {l : List (Int × Int)} (h : okB l = true) : chV (shP d p) l = chW (shP d p) l :=
  chV_asc (chL_asc (asc_of_ok h) fun x y _ _ hxy => by unfold ltN shP at *; omega)
end Go.Proofs.YtehmkablandefaaGreatDoor
