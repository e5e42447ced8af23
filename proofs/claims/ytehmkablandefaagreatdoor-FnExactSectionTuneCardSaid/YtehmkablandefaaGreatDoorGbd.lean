import Derived.Test.YtehmkablandefaaGreatDoorGbc
namespace Go.Proofs.YtehmkablandefaaGreatDoor
open Go.RowKit

theorem results_pt {fn : Func} {p q : Tmp} (h : fn.results = #[.cell p 76, .tmp q]) (tmps : Array Value) (w : World) (g : Nat) (t : TypeId) (cs : Array Value) (v : Value)
    (hp : tmps.getD p undef = .pointer (some ⟨g, 0, none⟩)) (hq : tmps.getD q undef = v) (hg : w.heap[g]? = some (.cells cs t (0, 0)))
    (hi : (Tryz.prog.info? 76).map (·.size) = some cs.size) :
    (results fn tmps).run Tryz.prog w = .ok (.tuple #[.agg cs, v]) w := by
  have hp' : tmps[p]?.getD undef = .pointer (some ⟨g, 0, none⟩) := by simpa using hp
  have hq' : tmps[q]?.getD undef = v := by simpa using hq
  have h1 := run_loadVar_row w g t 76 cs (0, 0) _ hg Tryz.underlying76 rfl hi
  simp [results, h, hp', hq', asAddr, h1]

set_option maxRecDepth 20000 in
set_option maxHeartbeats 2000000 in
theorem planFor_any (s : Int) (A : Option Addr) (c : Nat) (l : List (Int × Int)) (B : Option Addr) (d : Nat) (m : List (Int × Int)) (o : Nat → Int) (E : Option Addr) (nd cd : Nat) (fb : Bool) (w : World) (hA : HA w A l) (hn : l.length ≤ 1048576) (hwf : HWF l) (hs : -32768 ≤ s ∧ s ≤ 32767)
    (hB : SecA w B m) (hm : m.length ≤ 1048576) (hswf : SWF m) (howf : OWF o)
    (hfits : frB s l = true → ∀ W, Below w.heap.size w W → Calls Tryz.prog 81 #[.agg #[.int .i64 s, .slice A l.length c], .slice E nd cd] W (Says fb W)) (b : Bool) (hb : (frB s l && fb && planB s m o) = b) :
    Calls Tryz.prog 33 #[.agg #[.int .i16 s, .slice A l.length c], .agg (prA B m.length d o), .slice E nd cd] w (PlanC b (plA s A l.length c B m.length d o) w) := by
  have hz := zeroPln
  have hmf : ∀ (fn : Fn) (first cap : Array Value) (w : World), (Instr.makeFunc fn first cap).run Tryz.prog w = .ok (.func fn first cap) w := fun _ _ _ _ => rfl
  go_enter Tryz.func33, Tryz.ntmps33
  go_upto_region 1 with fail
  obtain ⟨X, hX⟩ : ∃ X, X = (((w.alloc (.cells #[.int .i16 s, .slice A l.length c] 41)).alloc (.cells (prA B m.length d o) 47)).alloc (.cells #[.slice E nd cd] 110)).alloc (.cells zpl 76) := ⟨_, rfl⟩
  have hb0 : Below w.heap.size w X := by rw [hX]; exact ((((Below.refl _ _).alloc (Nat.le_refl _) _).alloc (by simp) _).alloc (by simp; omega) _).alloc (by simp; omega) _
  have FP0 : FP X w.heap.size s A l.length c := by
    have h : Bk X w.heap.size 41 #[.int .i16 s, .slice A l.length c] := by rw [hX]; exact (((Bk.new _ _ _ rfl).old _).old _).old _
    exact ⟨h.cell rfl, h.cell rfl⟩
  have P0 : Bk X (w.heap.size + 1) 47 (prA B m.length d o) := by rw [hX]; exact ((Bk.new _ _ _ (by simp)).old _).old _
  have D0 : X.cell? ⟨w.heap.size + 1 + 1, 0, none⟩ = some (.slice E nd cd) := by
    have h : Bk X (w.heap.size + 1 + 1) 110 #[.slice E nd cd] := by rw [hX]; exact (Bk.new _ _ _ (by simp)).old _
    exact h.cell rfl
  have Z0 : Bk X (w.heap.size + 1 + 1 + 1) 76 zpl := by rw [hX]; exact Bk.new _ _ _ (by simp)
  rw [← hX]
  clear hX hz
  go_wp2_with fail
  have hK : ∀ W, Below X.heap.size X W → Calls Tryz.prog 61 #[.pointer (some ⟨w.heap.size, 0, none⟩), .pointer (some ⟨w.heap.size + 1 + 1, 0, none⟩), .pointer (some ⟨w.heap.size + 1, 0, none⟩)] W (GivenOr b (.agg (plA s A l.length c B m.length d o)) W) := fun W hW => by
    rw [← hb]
    exact makePlan_any _ _ _ s A c l _ fb B d m o W (FP0.keep hW) ((hA.below hb0).below hW) hn hwf hs ((hW.cell (p := ⟨_, _, none⟩) (World.block_lt_of_cell? _ _ D0)).trans D0) (P0.keep hW) ((hB.below hb0).below hW) hm hswf howf (fun h W2 hW2 => hfits h W2 (step_below hW2 (step_below hW hb0)))
  refine (guarded_any _ _ _ b s A l.length c B m.length d o _ hK).mono ?_
  rintro e w2 ⟨rfl, hb2⟩
  have b2 := step_below hb2 hb0
  have HZ := hide (show w2.heap[w.heap.size + 1 + 1 + 1]? = some (.cells zpl 76 (0, 0)) from Z0.keep hb2)
  clear hK hb hfits
  have hzi : (Tryz.prog.info? 76).map (·.size) = some zpl.size := by rw [zpl_eq]; exact plInfo
  have hzo : zpl.all (·.oneCell') = true := by rw [zpl_eq]; exact plA_one
  cases b
  · simp only [Bool.false_eq_true, if_false]
    go_wp2_with (with_reducible refine wpList_store_row rfl 76 (.tmp 6) (.tmp 10) rfl (w.heap.size + 1 + 1 + 1) zpl rfl rfl 76 _ HZ.out hzi rfl hzo ?_)
    exact bodyPost_ret (v := .tuple #[.agg zpl, .int .i64 1]) (results_pt Tryz.results33 _ _ (w.heap.size + 1 + 1 + 1) 76 zpl _ (by simp [Act.put]) (by simp [Act.put]) (setRow_heap _ _ _ _ _ _ HZ.out) hzi) rfl ⟨rfl, below_setRow' b2 (by omega)⟩
  · simp only [if_true]
    go_wp2_with (with_reducible refine wpList_store_row rfl 76 (.tmp 6) (.tmp 10) rfl (w.heap.size + 1 + 1 + 1) (plA s A l.length c B m.length d o) rfl rfl 76 _ HZ.out plInfo (by rw [zpl_eq, plA_size, plA_size]) plA_one ?_)
    exact bodyPost_ret (v := .tuple #[.agg (plA s A l.length c B m.length d o), .int .i64 0]) (results_pt Tryz.results33 _ _ (w.heap.size + 1 + 1 + 1) 76 (plA s A l.length c B m.length d o) _ (by simp [Act.put]) (by simp [Act.put]) (setRow_heap _ _ _ _ _ _ HZ.out) plInfo) rfl ⟨rfl, below_setRow' b2 (by omega)⟩

/-- the program's way to ask is the document's -/
theorem secsI_eq {s : Int} {m : List (Int × Int)} (hs : 2 ≤ s) : secsI s m = (decide (m.length ≤ 12) && secsB s m) := by
  rw [Bool.eq_iff_iff]
  simp only [secsI, Bool.and_eq_true, decide_eq_true_eq]
  constructor
  · rintro ⟨⟨h1, h2⟩, h3⟩
    refine ⟨h1, SG_all fun j hj => ?_⟩
    have hI := all_SG h2
    have each : ∀ j, j < m.length → secE m j ≤ secF m j ∧ 1 ≤ secS m j := fun j hj => by
      have := hI j hj
      simpa [secI] using this
    have up : ∀ i j, j + i = m.length → secE m j ≤ s := by
      intro i
      induction i with
      | zero => intro j e; rw [show j = m.length by omega]; exact h3
      | succ i ih =>
        intro j e
        have h4 := ih (j + 1) (by omega)
        have h5 := each j (by omega)
        simp only [secE] at h4
        omega
    have h6 := up (m.length - (j + 1)) (j + 1) (by omega)
    have h5 := each j hj
    simp only [secE] at h6
    exact secG_yes ⟨h5.1, by omega, h5.2, h6⟩
  · rintro ⟨h1, h2⟩
    have hG := all_SG h2
    refine ⟨⟨h1, SG_all fun j hj => ?_⟩, ?_⟩
    · have := secG_of (hG j hj)
      simp [secI, this.1, this.2.2.1]
    · cases hn : m.length with
      | zero => simp [secE]; omega
      | succ k => have := secG_of (hG k (by omega)); simp only [secE]; exact this.2.2.2
theorem plan_prg (s : Int) (l m : List (Int × Int)) (o : Nat → Int) : (frB s l && true && planB s m o) = prgB s l m o := by
  cases h : frB s l
  · simp [prgB, h]
  · have h2 := (frB_all h).1.1
    simp [prgB, h, planB, secsI_eq h2, Bool.and_assoc]
/-- .. with no drum -/
theorem planFor0_any (s : Int) (A : Option Addr) (c : Nat) (l : List (Int × Int)) (B : Option Addr) (d : Nat) (m : List (Int × Int)) (o : Nat → Int) (w : World) (hA : HA w A l) (hn : l.length ≤ 1048576) (hwf : HWF l) (hs : -32768 ≤ s ∧ s ≤ 32767)
    (hB : SecA w B m) (hm : m.length ≤ 1048576) (hswf : SWF m) (howf : OWF o) (b : Bool) (hb : prgB s l m o = b) :
    Calls Tryz.prog 33 #[.agg #[.int .i16 s, .slice A l.length c], .agg (prA B m.length d o), .slice none 0 0] w (PlanC b (plA s A l.length c B m.length d o) w) :=
  planFor_any s A c l B d m o none 0 0 true w hA hn hwf hs hB hm hswf howf (fun _ W _ => fits_nil _ s A l.length c rfl W) b (by rw [plan_prg]; exact hb)
end Go.Proofs.YtehmkablandefaaGreatDoor
namespace Go.Proofs.YtehmkablandefaaGreatDoor
open Go.RowKit

/-- two numbers come back -/
def Two (v c : Int) (w : World) (e : Ending) (w' : World) : Prop := e = .returned (.tuple #[.int .i64 v, .int .i64 c]) ∧ Below w.heap.size w w'
theorem isQuarter_any (q : Int) (w : World) : Calls Tryz.prog 44 #[.int .i64 q] w fun e w' => e = .returned (.bool (inB q 0 47)) ∧ w = w' := by
  go_enter Tryz.func44, Tryz.ntmps44
  go_wp2_with (go_at_call 66; refine (within_any _ _ _ _).mono ?_; rintro e w' ⟨rfl, rfl⟩)
  go_ret
  exact ⟨rfl, rfl⟩
theorem l04Quarter_any (q : Int) (w : World) : Calls Tryz.prog 42 #[.int .i64 q] w fun e w' => e = .returned (.bool (inB q 0 47)) ∧ w = w' := by
  go_enter Tryz.func42, Tryz.ntmps42
  go_wp2_with (go_at_call 27; refine (l00In_any _ _ _ _).mono ?_; rintro e w' ⟨rfl, rfl⟩)
  go_ret
  exact ⟨rfl, rfl⟩
/-- a step around -/
def arI (s x : Int) : Int := x % s
theorem arI_in {s x : Int} (hs : 2 ≤ s) : 0 ≤ arI s x ∧ arI s x < s := ⟨Int.emod_nonneg _ (by omega), Int.emod_lt_of_pos _ (by omega)⟩
end Go.Proofs.YtehmkablandefaaGreatDoor
namespace Go.Proofs.YtehmkablandefaaGreatDoor
open Go.RowKit

def ncP (o : Nat → Int) (Q : Nat) (x : Int) (j : Nat) : Bool := decide (o ((Q + 1 + j) % 48) = x)
def ncJ (o : Nat → Int) (Q : Nat) (x : Int) : Option Nat := (List.range 48).find? (ncP o Q x)
def ncC (s : Int) (l m : List (Int × Int)) (o : Nat → Int) (q x : Int) : Int := if prgB s l m o then (if inB q 0 47 && inB x 0 ((m.length : Int) - 1) then (if (ncJ o q.toNat x).isSome then 0 else 6) else 2) else 1
def ncV (s : Int) (l m : List (Int × Int)) (o : Nat → Int) (q x : Int) : Int := if ncC s l m o q x = 0 then (match ncJ o q.toNat x with | some j => (((q.toNat + 1 + j) % 48 : Nat) : Int) | none => 0) else 0
theorem find_yes {P : Nat → Bool} {n k : Nat} (h : SG (fun j => !P j) k) (hk : k < n) (hp : P k = true) : (List.range n).find? P = some k := by
  rw [List.find?_range_eq_some]
  exact ⟨hp, List.mem_range.2 hk, h⟩
theorem find_no {P : Nat → Bool} {n : Nat} (h : SG (fun j => !P j) n) : (List.range n).find? P = none := by
  rw [List.find?_eq_none]
  intro j hj hp
  have := h j (List.mem_range.1 hj)
  simp [hp] at this

end Go.Proofs.YtehmkablandefaaGreatDoor
namespace Go.Proofs.YtehmkablandefaaGreatDoor
open Go.RowKit

theorem prgB_all {s : Int} {l m : List (Int × Int)} {o : Nat → Int} (h : prgB s l m o = true) : (2 ≤ s ∧ s ≤ 96) ∧ m.length ≤ 12 ∧ SG (secG s m) m.length ∧ SG (ordG m.length o) 48 := by
  simp only [prgB, Bool.and_eq_true, decide_eq_true_eq] at h
  exact ⟨(frB_all h.1.1.1).1, h.1.1.2, all_SG h.1.2, all_SG h.2⟩
theorem secE_nonneg {s : Int} {m : List (Int × Int)} (h : SG (secG s m) m.length) : ∀ k, k ≤ m.length → 0 ≤ secE m k
  | 0, _ => by simp [secE]
  | k + 1, hk => by
    have h1 := secG_of (h k (by omega))
    have h2 := secE_nonneg h k (by omega)
    simp only [secE]
    omega
theorem sec_in {s : Int} {m : List (Int × Int)} (h : SG (secG s m) m.length) (k : Nat) (hk : k < m.length) : 0 ≤ secF m k ∧ secF m k < s ∧ 1 ≤ secS m k ∧ secF m k + secS m k ≤ s := by
  have h1 := secG_of (h k hk)
  have h2 := secE_nonneg h k (by omega)
  exact ⟨by omega, h1.2.1, h1.2.2.1, h1.2.2.2⟩

def saP (m : List (Int × Int)) (x : Int) (k : Nat) : Bool := decide (secF m k ≤ x ∧ x < secF m k + secS m k)
def saJ (m : List (Int × Int)) (x : Int) : Option Nat := (List.range m.length).find? (saP m x)
def saC (s : Int) (l m : List (Int × Int)) (o : Nat → Int) (x : Int) : Int := if prgB s l m o then (if inB x 0 (s - 1) then (if (saJ m x).isSome then 0 else 6) else 2) else 1
def saV (s : Int) (l m : List (Int × Int)) (o : Nat → Int) (x : Int) : Int := if saC s l m o x = 0 then (match saJ m x with | some j => (j : Int) | none => 0) else 0

end Go.Proofs.YtehmkablandefaaGreatDoor
