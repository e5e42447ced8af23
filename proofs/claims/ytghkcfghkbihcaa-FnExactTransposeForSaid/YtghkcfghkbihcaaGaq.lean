import Derived.Test.YtghkcfghkbihcaaChg
import Derived.Test.YtghkcfghkbihcaaValid
namespace Go.Proofs.Ytghkcfghkbihcaa
open Go.RowKit
/-- block g holds one number -/
def Nb (w : World) (g : Nat) (x : Int) : Prop := w.cell? ⟨g, 0, none⟩ = some (.int .i64 x) ∧ g < w.heap.size
theorem Nb.keep {w w' : World} {g : Nat} {x : Int} (h : Nb w g x) (hb : Below w.heap.size w w') : Nb w' g x := ⟨(hb.cell (p := ⟨g, 0, none⟩) h.2).trans h.1, Nat.lt_of_lt_of_le h.2 hb.size⟩
def shP (d p : Int) (a q : Int) : Int × Int := (a + d, q + p)
set_option maxRecDepth 20000 in
theorem shifted1_any (g h : Nat) (d p a q : Int) (w : World) (h1 : Nb w g d) (h2 : Nb w h p) (hd : -100000 ≤ d ∧ d ≤ 100000) (hp : -100000 ≤ p ∧ p ≤ 100000) (ha : -32768 ≤ a ∧ a ≤ 32767) (hq : -128 ≤ q ∧ q ≤ 127) :
    Calls Try.prog 35 #[.int .i64 a, .int .i64 q, .pointer (some ⟨g, 0, none⟩), .pointer (some ⟨h, 0, none⟩)] w fun e w' => e = .returned (.tuple #[.int .i64 (a + d), .int .i64 (q + p)]) ∧ Below w.heap.size w w' := by
  have e1 := Later.cell h1.1
  have e2 := Later.cell h2.1
  have hw1 : IntKind.i64.wrap (a + d) = a + d := IntWalk.i64_in _ (by omega)
  have hw2 : IntKind.i64.wrap (q + p) = q + p := IntWalk.i64_in _ (by omega)
  clear h1 h2
  go_enter Try.func35, Try.ntmps35
  go_wp2_with fail
  refine wp_region_later (by kernel_rfl) (by kernel_rfl) ?_
  repeat (go_big_quiet_step (fail))
  refine wpQuiet_nil ?_
  rintro wz ⟨⟨_, hq'⟩, rfl⟩
  go_wp2
  go_ret2
  exact ⟨rfl, hq'⟩
set_option maxRecDepth 20000 in
set_option maxHeartbeats 1000000 in
theorem shifted_any (d p : Int) (A : Option Addr) (c : Nat) (l : List (Int × Int)) (w : World) (hA : NA w A l) (hn : l.length ≤ 1048576) (hwf : WF l) (hd : -100000 ≤ d ∧ d ≤ 100000) (hp : -100000 ≤ p ∧ p ≤ 100000) :
    Calls Try.prog 20 #[.slice A l.length c, .int .i64 d, .int .i64 p] w (OwnN w (chV (shP d p) l) (chC (shP d p) l)) := by
  have hmf : ∀ (fn : Fn) (first cap : Array Value) (w : World), (Instr.makeFunc fn first cap).run Try.prog w = .ok (.func fn first cap) w := fun _ _ _ _ => rfl
  have eg : ∀ args w, (callFunc 35 args).run Try.prog w = .ok (.enter 35 args) w := fun _ _ => by kernel_rfl
  obtain ⟨X, hX⟩ : ∃ X, X = (w.alloc (.cells #[.int .i64 d] 2)).alloc (.cells #[.int .i64 p] 2) := ⟨_, rfl⟩
  have hb0 : Below w.heap.size w X := by rw [hX]; exact ((Below.refl _ _).alloc (Nat.le_refl _) _).alloc (by simp) _
  have N1 : Nb X w.heap.size d := by rw [hX]; exact ⟨by simp [go_sem, World.cell?_alloc_past], by simp; omega⟩
  have N2 : Nb X (w.heap.size + 1) p := by rw [hX]; exact ⟨by simp [go_sem], by simp⟩
  have hpl : PlaceOf 35 #[.pointer (some ⟨w.heap.size, 0, none⟩), .pointer (some ⟨w.heap.size + 1, 0, none⟩)] (shP d p) l X := fun W hW k hk =>
    shifted1_any w.heap.size (w.heap.size + 1) d p (nAt l k) (nPi l k) W (N1.keep hW) (N2.keep hW) hd hp (hwf k hk).1 (hwf k hk).2
  have KC := changed_any 35 #[.pointer (some ⟨w.heap.size, 0, none⟩), .pointer (some ⟨w.heap.size + 1, 0, none⟩)] (shP d p) A c l X (hA.below hb0) hn hwf eg hpl
  obtain ⟨V, hV⟩ : ∃ V, V = chV (shP d p) l := ⟨_, rfl⟩
  obtain ⟨C, hC⟩ : ∃ C, C = chC (shP d p) l := ⟨_, rfl⟩
  rw [← hV, ← hC] at KC ⊢
  clear hpl hV hC
  go_enter Try.func20, Try.ntmps20
  go_upto_region 1 with fail
  rw [← hX]
  clear hX
  go_wp2_with fail
  refine KC.mono ?_
  rintro e w1 ⟨C1, q1, rfl, own1, hb1⟩
  go_wp2
  go_ret2
  exact ⟨C1, q1, rfl, own_base own1 hb0.size, step_below hb1 hb0⟩
/-! ascending tunes -/
theorem asc_of_ok {l : List (Int × Int)} (h : okB l = true) : AscN l := by
  simp only [okB, Bool.and_eq_true, List.all_eq_true, List.mem_range, good, Bool.or_eq_true, decide_eq_true_eq] at h
  have adj : ∀ j, 0 < j → j < l.length → ltN (nAt l (j - 1), nPi l (j - 1)) (nAt l j, nPi l j) := fun j h0 hj => by
    rcases (h.1 j hj).2 with e | e
    · omega
    · exact (befB_iff _ _ _ _).1 e
  have hget : ∀ j (hj : j < l.length), l[j] = (nAt l j, nPi l j) := fun j hj => by simp [nAt, nPi, List.getD, hj]
  refine List.pairwise_iff_getElem.2 fun i j hi hj hij => ?_
  have all : ∀ m, i < m → m < l.length → ltN (nAt l i, nPi l i) (nAt l m, nPi l m) := by
    intro m
    induction m with
    | zero => intro h0 _; omega
    | succ m ih =>
      intro h1 h2
      have ha := adj (m + 1) (by omega) h2
      rw [Nat.add_sub_cancel] at ha
      rcases Nat.lt_or_ge i m with h3 | h3
      · exact ltN_trans (ih h3 (by omega)) ha
      · obtain rfl : i = m := by omega
        exact ha
  rw [hget i hi, hget j hj]
  exact all j hij hj
theorem ok_in {l : List (Int × Int)} (h : okB l = true) (k : Nat) (hk : k < l.length) : (0 ≤ nAt l k ∧ nAt l k ≤ 199) ∧ (0 ≤ nPi l k ∧ nPi l k ≤ 47) := by
  simp only [okB, Bool.and_eq_true, List.all_eq_true, List.mem_range, good, decide_eq_true_eq] at h
  simpa [noteB] using (h.1 k hk).1
theorem ok_len {l : List (Int × Int)} (h : okB l = true) : l.length ≤ 120 := by
  simp only [okB, Bool.and_eq_true, decide_eq_true_eq] at h
  exact h.2
theorem chL_map (pf : Int → Int → Int × Int) (l : List (Int × Int)) : chL pf l l.length = l.map fun x => pf x.1 x.2 := by
  apply List.ext_getElem
  · simp [chL]
  · intro i h1 h2
    have hi : i < l.length := by simpa [chL] using h1
    simp [chL, nAt, nPi, List.getD, hi]
theorem chL_asc {pf : Int → Int → Int × Int} {l : List (Int × Int)} (h : AscN l) (hm : ∀ x y, x ∈ l → y ∈ l → ltN x y → ltN (pf x.1 x.2) (pf y.1 y.2)) : AscN (chL pf l l.length) := by
  rw [chL_map]
  refine List.pairwise_map.2 ?_
  exact List.Pairwise.imp_of_mem (fun {x y} hx hy hxy => hm x y hx hy hxy) h
theorem chV_asc {pf : Int → Int → Int × Int} {l : List (Int × Int)} (h : AscN (chL pf l l.length)) : chV pf l = chW pf l := by
  unfold chV chW
  rw [srtN_id _ h]
theorem sh_asc {d p : Int} {l : List (Int × Int)} (h : okB l = true) : chV (shP d p) l = chW (shP d p) l :=
  chV_asc (chL_asc (asc_of_ok h) fun x y _ _ hxy => by unfold ltN shP at *; omega)
end Go.Proofs.Ytghkcfghkbihcaa
namespace Go.Proofs.Ytghkcfghkbihcaa
open Go.RowKit

def MoveTuneC (l : List (Int × Int)) (x : Int) : Int := if okB l then (if inB x (-200) 200 then chC (shP x 0) l else 4) else 1
def MoveTuneV (l : List (Int × Int)) (x : Int) : List (Int × Int) := if okB l && inB x (-200) 200 then chW (shP x 0) l else []
theorem MoveTuneV_len (l : List (Int × Int)) (x : Int) (h : l.length ≤ 1048576) : (MoveTuneV l x).length ≤ 1048576 := by
  unfold MoveTuneV
  split
  · exact Nat.le_trans (chW_len _ _) h
  · simp
def TransposeC (l : List (Int × Int)) (x : Int) : Int := if okB l then (if inB x (-48) 48 then chC (shP 0 x) l else 4) else 1
def TransposeV (l : List (Int × Int)) (x : Int) : List (Int × Int) := if okB l && inB x (-48) 48 then chW (shP 0 x) l else []
theorem TransposeV_len (l : List (Int × Int)) (x : Int) (h : l.length ≤ 1048576) : (TransposeV l x).length ≤ 1048576 := by
  unfold TransposeV
  split
  · exact Nat.le_trans (chW_len _ _) h
  · simp
end Go.Proofs.Ytghkcfghkbihcaa
namespace Go.Proofs.Ytghkcfghkbihcaa
open Go.RowKit


def lenI (l : List (Int × Int)) : Int := if l.length = 0 then 0 else nAt l (l.length - 1) + 1
theorem lenI_zero (l : List (Int × Int)) (h : l.length = 0) : lenI l = 0 := by rw [lenI, if_pos h]
theorem lenI_pos (l : List (Int × Int)) (h : 0 < l.length) : lenI l = nAt l (l.length - 1) + 1 := by rw [lenI, if_neg (by omega)]

end Go.Proofs.Ytghkcfghkbihcaa
namespace Go.Proofs.Ytghkcfghkbihcaa
open Go.RowKit

theorem codeI_true {b : Bool} (h : b = true) : codeI b = 0 := by rw [h]; rfl
theorem codeI_false {b : Bool} (h : b = false) : codeI b = 1 := by rw [h]; rfl
theorem onlyI_true {b : Bool} (x : Int) (h : b = true) : onlyI b x = x := by rw [h]; rfl
theorem onlyI_false {b : Bool} (x : Int) (h : b = false) : onlyI b x = 0 := by rw [h]; rfl
theorem not_yes {b : Bool} (h : (!b) = true) : b = false := by simpa using h
theorem not_no {b : Bool} (h : (!b) = false) : b = true := by simpa using h

end Go.Proofs.Ytghkcfghkbihcaa
