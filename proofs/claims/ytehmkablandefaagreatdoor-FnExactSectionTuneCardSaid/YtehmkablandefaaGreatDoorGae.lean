import Derived.Test.YtehmkablandefaaGreatDoorGad
import Derived.Deep.MidRow
import Derived.Great.Ranges
import Derived.Great.BuildSlice
import Derived.Deep.CutRange
namespace Go.Proofs.YtehmkablandefaaGreatDoor
open Go.RowKit

/-- an order's cells -/
def o48 (d : Nat → Int) : List Value := (List.range 48).map fun i => .int .i8 (d i)
theorem o48_length (d : Nat → Int) : (o48 d).length = 48 := by simp [o48]
theorem o48_get (d : Nat → Int) (i : Nat) (h : i < 48) : (o48 d)[i]? = some (.int .i8 (d i)) := by simp [o48, h]
theorem o48_one (d : Nat → Int) : ∀ v ∈ o48 d, v.oneCell' = true := by
  intro v hv
  simp only [o48, List.mem_map] at hv
  obtain ⟨i, _, rfl⟩ := hv
  rfl
theorem o48_set (d : Nat → Int) (k : Nat) (x : Int) : (o48 d).set k (.int .i8 x) = o48 (fun i => if i = k then x else d i) := by
  apply List.ext_getElem?
  intro i
  by_cases hi : i < 48
  · rw [o48_get _ _ hi, List.getElem?_set, o48_get _ _ hi, o48_length]
    by_cases e : k = i
    · subst e; simp [hi]
    · rw [if_neg e, if_neg (fun h => e h.symm)]
  · rw [List.getElem?_eq_none (by rw [List.length_set, o48_length]; omega), List.getElem?_eq_none (by rw [o48_length]; omega)]
theorem o48_congr {d d' : Nat → Int} (h : ∀ i, i < 48 → d i = d' i) : o48 d = o48 d' := by
  apply List.map_congr_left
  intro i hi
  rw [h i (List.mem_range.1 hi)]
/-- as an array -/
def oa (d : Nat → Int) : Array Value := (o48 d).toArray
theorem oa_one (d : Nat → Int) : (oa d).all (·.oneCell') = true := all_oneCell_toArray (o48_one d)
theorem oa_size (d : Nat → Int) : (oa d).size = 48 := by simp [oa, o48_length]
/-- block g holds an order, as a row of a type -/
def Oc (w : World) (g : Nat) (t : TypeId) (d : Nat → Int) : Prop := w.heap[g]? = some (.cells (oa d) t (0, 0))
theorem Oc.lt {w : World} {g : Nat} {t : TypeId} {d : Nat → Int} (h : Oc w g t d) : g < w.heap.size := (Array.getElem?_eq_some_iff.1 h).1
theorem Oc.cell {w : World} {g : Nat} {t : TypeId} {d : Nat → Int} (h : Oc w g t d) {i : Nat} (hi : i < 48) : w.cell? ⟨g, i, none⟩ = some (.int .i8 (d i)) := by
  rw [cell_of_row w g i _ _ _ h]
  simpa [oa] using o48_get d i hi
theorem Oc.frozen {w : World} {g : Nat} {t : TypeId} {d : Nat → Int} (h : Oc w g t d) (i : Nat) : w.frozen? ⟨g, i, none⟩ = false := frozen_of_row w g i _ _ h
theorem Oc.keep {w w' : World} {g : Nat} {t : TypeId} {d : Nat → Int} (h : Oc w g t d) (hb : Below w.heap.size w w') : Oc w' g t d := (hb.block g h.lt).trans h
theorem Oc.set {w : World} {g : Nat} {t : TypeId} {d : Nat → Int} (h : Oc w g t d) (k : Nat) (x : Int) : Oc (w.setCell ⟨g, k, none⟩ (.int .i8 x)) g t (fun i => if i = k then x else d i) := by
  have := heap_setCell_same w g k _ _ (.int .i8 x) h
  unfold Oc
  rw [this, oa, oa, ← o48_set]
  simp
theorem Oc.other {w : World} {g b k : Nat} {t : TypeId} {d : Nat → Int} (h : Oc w g t d) (hne : g ≠ b) (v : Value) : Oc (w.setCell ⟨b, k, none⟩ v) g t d := by
  unfold Oc at h ⊢
  rw [← h]
  exact heap_setCell_other w ⟨b, k, none⟩ g v hne
theorem Oc.congr {w : World} {g : Nat} {t : TypeId} {d d' : Nat → Int} (h : Oc w g t d) (he : ∀ i, i < 48 → d i = d' i) : Oc w g t d' := by
  unfold Oc oa at *
  rw [h, o48_congr he]

def z48 : Array Value := (List.replicate 48 (.int .i8 0)).toArray
theorem z48_eq : z48 = oa fun _ => 0 := by
  unfold z48 oa o48
  simp [List.map_const']
theorem zeroOrd (w : World) : (zeroValue 30).run Tryz.prog w = .ok (.agg z48) w := by kernel_rfl
theorem info30 : (Tryz.prog.info? 30).map (·.size) = some 48 := by kernel_rfl
theorem oInfoA (o : Nat → Int) : (Tryz.prog.info? 30).map (·.size) = some (oa o).size := by rw [oa_size]; exact info30
theorem oInfo (o : Nat → Int) : (Tryz.prog.info? 30).map (·.size) = some (o48 o).length := by rw [o48_length]; exact info30
theorem Oc.range {w : World} {g : Nat} {t : TypeId} {d : Nat → Int} (h : Oc w g t d) : w.rangeAt g 0 (o48 d) := by
  intro i v hv
  have hi : i < 48 := by
    rcases Nat.lt_or_ge i 48 with h | h
    · exact h
    · rw [List.getElem?_eq_none (by rw [o48_length]; exact h)] at hv; cases hv
  rw [o48_get _ i hi] at hv
  rw [Nat.zero_add, h.cell hi]
  exact hv
set_option maxRecDepth 20000 in
set_option maxHeartbeats 1000000 in
theorem toInt8A48_any (d : Nat → Int) (w : World) :
    Calls Tryz.prog 32 #[.agg (oa d)] w fun e w' => e = .returned (.agg (oa d)) ∧ Below w.heap.size w w' := by
  have hz := zeroOrd
  go_enter Tryz.func32, Tryz.ntmps32
  go_wp2_with fail
  clear hz
  have hb0 : Below w.heap.size w (((w.alloc (.cells (oa d) 30)).alloc (.cells z48 30)).alloc (.cells z48 30)) := (((Below.refl _ _).alloc (Nat.le_refl _) _).alloc (by simp) _).alloc (by simp; omega) _
  go_loopw [4] (fun i wr => ∃ k : Nat, k ≤ 48 ∧ i = .int .i64 k ∧ Oc wr w.heap.size 30 d ∧ Oc wr (w.heap.size + 1) 30 (fun _ => 0) ∧ Oc wr (w.heap.size + 1 + 1) 30 (fun i => if i < k then d i else 0) ∧ Below w.heap.size w wr)
    (fun i _ => 48 - (intOf i).toNat)
  case atStart => exact ⟨0, Nat.zero_le _, rfl, heap_old' (heap_old' (heap_new' _ _ _ rfl)), by rw [z48_eq]; exact heap_old' (heap_new' _ _ _ (by simp)), by rw [z48_eq]; exact heap_new' _ _ _ (by simp), hb0⟩
  case round =>
    obtain ⟨k, hk, rfl, D1, D2, D3, hb⟩ := hrel
    by_cases hlt : k < 48
    · have c1 := D1.cell hlt
      have c3 := D3.cell hlt
      have f3 := D3.frozen k
      go_wp2
      go_roundw
      case rel =>
        refine ⟨k + 1, hlt, by go_num, D1.other (by omega) _, D2.other (by omega) _, (D3.set k (d k)).congr fun i hi => ?_, hb.setCell (p := ⟨_, _, none⟩) (by dsimp only; omega) _⟩
        by_cases e : i = k
        · subst e; rw [if_pos rfl, if_pos (by omega)]
        · rw [if_neg e]
          by_cases h2 : i < k
          · rw [if_pos h2, if_pos (by omega)]
          · rw [if_neg h2, if_neg (by omega)]
      case measure => simp [intOf]; omega
    · obtain rfl : k = 48 := by omega
      have R2 : wr.heap[w.heap.size + 1]? = some (.cells (oa fun _ => 0) 30 (0, 0)) := D2
      have R3 : wr.heap[w.heap.size + 1 + 1]? = some (.cells (oa d) 30 (0, 0)) := (D3.congr (d' := d) fun i hi => by rw [if_pos hi] : Oc _ _ _ d)
      have HR2 := hide R2
      have HR3 := hide R3
      clear R2 R3
      go_wp2_with (first | (with_reducible refine wpList_load_row rfl 30 (.tmp 3) rfl (w.heap.size + 1 + 1) rfl 30 (oa d) (0, 0) _ HR3.out Tryz.underlying30 rfl (oInfoA _) ?_) | (with_reducible refine wpList_store_row rfl 30 (.tmp 2) (.tmp 14) rfl (w.heap.size + 1) (oa d) rfl rfl 30 _ HR2.out (oInfoA _) (by rw [oa_size, oa_size]) (oa_one d) ?_))
      exact bodyPost_ret (v := .agg (oa d)) (results_cell_row Tryz.results32 _ _ (w.heap.size + 1) 30 (oa d) (0, 0) _ (by simp [Act.put]) (setRow_heap _ _ _ _ _ _ HR2.out) Tryz.underlying30 rfl (oInfoA _)) rfl ⟨rfl, below_setRow' hb (by omega)⟩
set_option maxRecDepth 20000 in
set_option maxHeartbeats 1000000 in
theorem eqInt8A48_any (r : Nat → Int) (w : World) :
    Calls Tryz.prog 39 #[.agg (oa r), .agg (oa r)] w (Says true w) := by
  have hb0 : Below w.heap.size w ((w.alloc (.cells (oa r) 30)).alloc (.cells (oa r) 30)) := ((Below.refl _ _).alloc (Nat.le_refl _) _).alloc (by simp) _
  have A0 : Oc ((w.alloc (.cells (oa r) 30)).alloc (.cells (oa r) 30)) w.heap.size 30 r := heap_old' (heap_new' _ _ _ rfl)
  have B0 : Oc ((w.alloc (.cells (oa r) 30)).alloc (.cells (oa r) 30)) (w.heap.size + 1) 30 r := heap_new' _ _ _ (by simp)
  go_enter Tryz.func39, Tryz.ntmps39
  go_wp2_with fail
  go_loopw [5] (fun i wr => ∃ k : Nat, k ≤ 48 ∧ i = .int .i64 k ∧ Oc wr w.heap.size 30 r ∧ Oc wr (w.heap.size + 1) 30 r ∧ Below w.heap.size w wr)
    (fun i _ => 48 - (intOf i).toNat)
  case atStart => exact ⟨0, Nat.zero_le _, rfl, A0, B0, hb0⟩
  case round =>
    obtain ⟨k, hk, rfl, D1, D2, hb⟩ := hrel
    by_cases hlt : k < 48
    · have c1 := Later.cell (D1.cell hlt)
      have c2 := Later.cell (D2.cell hlt)
      have hne : (r k != r k) = false := by simp
      have hsz := hb.size
      go_wp2_with fail
      refine wp_region_later (by kernel_rfl) (by kernel_rfl) ?_
      repeat (go_big_quiet_step (fail))
      refine wpQuiet_nil ?_
      rintro _ ⟨⟨wq, hq⟩, rfl⟩
      go_wp2
      go_roundw
      case rel => exact ⟨k + 1, hlt, by go_num, D1.keep hq, D2.keep hq, hb.trans (hq.mono hsz)⟩
      case measure => simp [intOf]; omega
    · obtain rfl : k = 48 := by omega
      go_wp2
      go_ret
      exact ⟨rfl, hb⟩
end Go.Proofs.YtehmkablandefaaGreatDoor
namespace Go.Proofs.YtehmkablandefaaGreatDoor
open Go.RowKit

/-- a programme's cells -/
def prL (A : Option Addr) (n c : Nat) (o : Nat → Int) : List Value := .slice A n c :: o48 o
def prA (A : Option Addr) (n c : Nat) (o : Nat → Int) : Array Value := (prL A n c o).toArray
theorem prL_length (A : Option Addr) (n c : Nat) (o : Nat → Int) : (prL A n c o).length = 49 := by simp [prL, o48_length]
theorem prA_size (A : Option Addr) (n c : Nat) (o : Nat → Int) : (prA A n c o).size = 49 := by simp [prA, prL_length]
theorem prA_one (A : Option Addr) (n c : Nat) (o : Nat → Int) : (prA A n c o).all (·.oneCell') = true := all_oneCell_toArray (by
  intro v hv
  rcases List.mem_cons.1 hv with rfl | h
  · rfl
  · exact o48_one o v h)
theorem prA_zero (A : Option Addr) (n c : Nat) (o : Nat → Int) : (prA A n c o)[0]? = some (.slice A n c) := rfl
theorem prA_ord (A : Option Addr) (n c : Nat) (o : Nat → Int) (j : Nat) (v : Value) (h : (o48 o)[j]? = some v) : (prA A n c o)[1 + j]? = some v := by
  rw [Nat.add_comm]
  simpa [prA, prL] using h
def zp : Array Value := (.slice none 0 0 :: List.replicate 48 (.int .i8 0)).toArray
theorem zp_eq : zp = prA none 0 0 fun _ => 0 := by
  unfold zp prA prL o48
  simp [List.map_const']
theorem zeroPrg (w : World) : (zeroValue 47).run Tryz.prog w = .ok (.agg zp) w := by kernel_rfl
theorem info47 : (Tryz.prog.info? 47).map (·.size) = some 49 := by kernel_rfl
theorem info32 : (Tryz.prog.info? 32).map (·.size) = some 49 := by kernel_rfl
theorem pInfo (A : Option Addr) (n c : Nat) (o : Nat → Int) : (Tryz.prog.info? 47).map (·.size) = some (prA A n c o).size := by rw [prA_size]; exact info47
theorem pInfoL (A : Option Addr) (n c : Nat) (o : Nat → Int) : (Tryz.prog.info? 32).map (·.size) = some (prA A n c o).size := by rw [prA_size]; exact info32
theorem Bk.slice {w : World} {g : Nat} {t : TypeId} {A : Option Addr} {n c : Nat} {o : Nat → Int} (h : Bk w g t (prA A n c o)) : w.cell? ⟨g, 0, none⟩ = some (.slice A n c) := h.cell (prA_zero A n c o)
theorem Bk.order {w : World} {g : Nat} {t : TypeId} {A : Option Addr} {n c : Nat} {o : Nat → Int} (h : Bk w g t (prA A n c o)) : w.rangeAt g 1 (o48 o) := h.range 1 _ (prA_ord A n c o)

theorem szProgramme_small (A : Option Addr) (n c : Nat) (o : Nat → Int) (x : Int) (h0 : 0 ≤ x) (h1 : x ≤ 1048576) (hn : n ≤ maxLen) (hs : (n : Int) ≤ x) (w : World) :
    Calls Tryz.prog 7 #[.agg (prA A n c o), .int .i64 x] w fun e w' => e = .returned (.int .i64 (x - n)) ∧ Below w.heap.size w w' := by
  have hb0 : Below w.heap.size w (w.alloc (.cells (prA A n c o) 32)) := (Below.refl _ _).alloc (Nat.le_refl _) _
  have c0 := (Bk.new w 32 (prA A n c o) rfl).slice
  have hlt : decide (x - (n : Int) < 0) = false := by simp; omega
  go_enter Tryz.func7, Tryz.ntmps7
  go_wp2_with (go_at_call 25; refine (szSectionS_small A n c x h0 h1 hn hs _).mono ?_; rintro e w' ⟨rfl, rfl⟩)
  go_ret
  exact ⟨rfl, hb0⟩
theorem szProgramme_big (A : Option Addr) (n c : Nat) (o : Nat → Int) (x : Int) (h0 : 0 ≤ x) (h1 : x ≤ 1048576) (hn : n ≤ maxLen) (hs : x < (n : Int)) (w : World) :
    Calls Tryz.prog 7 #[.agg (prA A n c o), .int .i64 x] w fun e w' => e = .returned (.int .i64 (-1)) ∧ Below w.heap.size w w' := by
  have hb0 : Below w.heap.size w (w.alloc (.cells (prA A n c o) 32)) := (Below.refl _ _).alloc (Nat.le_refl _) _
  have c0 := (Bk.new w 32 (prA A n c o) rfl).slice
  go_enter Tryz.func7, Tryz.ntmps7
  go_wp2_with (go_at_call 25; refine (szSectionS_big A n c x h0 h1 hn hs _).mono ?_; rintro e w' ⟨rfl, rfl⟩)
  go_ret
  exact ⟨rfl, hb0⟩

theorem wpList_load_oa {ops : Array Oper} {rest : List Oper} {op : Oper} {a : Act} {w : World} {Q : Exit → Act → World → Prop} (hgd : op.guard = none) (x : Operand) (ho : op.op = .load 30 x)
    (b p : Nat) (hx : a.eval x = .pointer (some ⟨b, p, none⟩)) (o : Nat → Int) (hc : w.rangeAt b p (o48 o))
    (h : wpList Tryz.prog ops Q rest (a.put op.dst (.agg (oa o))) w) : wpList Tryz.prog ops Q (op :: rest) a w :=
  wpList_load_mid hgd 30 x ho b p hx (o48 o) _ hc Tryz.underlying30 rfl (oInfo o) h
theorem wpList_load_pr {ops : Array Oper} {rest : List Oper} {op : Oper} {a : Act} {w : World} {Q : Exit → Act → World → Prop} (hgd : op.guard = none) (ty : TypeId) (x : Operand) (ho : op.op = .load ty x)
    (b p : Nat) (hx : a.eval x = .pointer (some ⟨b, p, none⟩)) (A : Option Addr) (n c : Nat) (o : Nat → Int) (d : TypeDesc) (hc : w.rangeAt b p (prL A n c o)) (hu : Tryz.prog.underlying ty = some d) (hd : d.isRow = true) (hi : (Tryz.prog.info? ty).map (·.size) = some (prA A n c o).size)
    (h : wpList Tryz.prog ops Q rest (a.put op.dst (.agg (prA A n c o))) w) : wpList Tryz.prog ops Q (op :: rest) a w :=
  wpList_load_mid hgd ty x ho b p hx (prL A n c o) d hc hu hd (by rw [hi, prA_size, prL_length]) h
theorem wpList_store_oa {ops : Array Oper} {rest : List Oper} {o : Oper} {a : Act} {w : World} {Q : Exit → Act → World → Prop} (hgd : o.guard = none) (x y : Operand) (ho : o.op = .store 30 x y)
    (b p : Nat) (q : Nat → Int) (hx : a.eval x = .pointer (some ⟨b, p, none⟩)) (hy : a.eval y = .agg (oa q))
    (ht : w.there b p 48)
    (h : wpList Tryz.prog ops Q rest (a.put o.dst undef) (w.setCells b p (o48 q))) : wpList Tryz.prog ops Q (o :: rest) a w :=
  wpList_store_mid hgd 30 x y ho b p (oa q) hx hy (by rw [oa_size]; exact ht) (oInfoA q) (oa_one q) h
theorem range_prL {w : World} {g : Nat} {A : Option Addr} {n c : Nat} {o : Nat → Int} (h0 : w.cell? ⟨g, 0, none⟩ = some (.slice A n c)) (h1 : w.rangeAt g 1 (o48 o)) : w.rangeAt g 0 (prL A n c o) := by
  intro j v hv
  cases j with
  | zero => simp only [prL, List.getElem?_cons_zero, Option.some.injEq] at hv; subst hv; exact h0
  | succ j => rw [Nat.zero_add, Nat.add_comm]; exact h1 j v (by simpa [prL] using hv)
theorem Bk.there {w : World} {g : Nat} {t : TypeId} {cs : Array Value} (h : Bk w g t cs) (p n : Nat) (hn : p + n ≤ cs.size) : w.there g p n := fun j hj =>
  ⟨by rw [h.cell (Array.getElem?_eq_getElem (by omega) : cs[p + j]? = _)]; rfl, h.frozen _⟩
theorem Bk.setSlice {w : World} {g : Nat} {t : TypeId} {A : Option Addr} {n c : Nat} {o : Nat → Int} (h : Bk w g t (prA A n c o)) (B : Option Addr) (m e : Nat) : Bk (w.setCell ⟨g, 0, none⟩ (.slice B m e)) g t (prA B m e o) :=
  heap_setCell_same w g 0 _ _ (.slice B m e) h
theorem heap_setCells_other (b : Nat) (k : Nat) : ∀ (vs : List Value) (p : Nat) (w : World), k ≠ b → (w.setCells b p vs).heap[k]? = w.heap[k]?
  | [], _, _, _ => rfl
  | v :: r, p, w, h => (heap_setCells_other b k r (p + 1) _ h).trans (heap_setCell_other w ⟨b, p, none⟩ k v h)
theorem Bk.otherS {w : World} {g b : Nat} {t : TypeId} {cs : Array Value} (h : Bk w g t cs) (hne : g ≠ b) (p : Nat) (vs : List Value) : Bk (w.setCells b p vs) g t cs := by
  induction vs generalizing w p with
  | nil => exact h
  | cons v r ih => exact ih (h.other hne v) (p + 1)

/-- what toProgramme leaves: a programme whose sections lie under an address of its own -/
def MadeP (w : World) (l : List (Int × Int)) (o : Nat → Int) (e : Ending) (w' : World) : Prop :=
  ∃ g, e = .returned (.agg (prA (some ⟨g, 0, none⟩) l.length l.length o)) ∧ w.heap.size ≤ g ∧ w'.ownsRow g 68 2 (.slice (some ⟨g, 0, none⟩) l.length l.length) l.length (secC l) ∧ Below w.heap.size w w'
set_option maxRecDepth 20000 in
set_option maxHeartbeats 1000000 in
theorem toProgramme_any (A : Option Addr) (c : Nat) (l : List (Int × Int)) (o : Nat → Int) (w : World) (hA : SecA w A l) (hn : l.length ≤ 1048576) :
    Calls Tryz.prog 11 #[.agg (prA A l.length c o)] w (MadeP w l o) := by
  have hz := zeroPrg
  obtain ⟨X, hX⟩ : ∃ X, X = ((w.alloc (.cells (prA A l.length c o) 32)).alloc (.cells zp 47)).alloc (.cells zp 47) := ⟨_, rfl⟩
  have hb0 : Below w.heap.size w X := by rw [hX]; exact (((Below.refl _ _).alloc (Nat.le_refl _) _).alloc (by simp) _).alloc (by simp; omega) _
  have hXs : w.heap.size + 1 + 1 < X.heap.size := by rw [hX]; simp
  have P0 : Bk X w.heap.size 32 (prA A l.length c o) := by rw [hX]; exact (Bk.new _ _ _ rfl).old _ |>.old _
  have Z1 : Bk X (w.heap.size + 1) 47 zp := by rw [hX]; exact (Bk.new _ _ _ (by simp)).old _
  have Z2 : Bk X (w.heap.size + 1 + 1) 47 zp := by rw [hX]; exact Bk.new _ _ _ (by simp)
  go_enter Tryz.func11, Tryz.ntmps11
  go_upto_region 2 with fail
  rw [← hX]
  clear hX hz
  have c0 := P0.slice
  go_wp2_with fail
  refine (toSectionS_any A c l _ (hA.below hb0) hn).mono ?_
  rintro e w2 ⟨rfl, own, hb⟩
  have b2 := step_below hb hb0
  have P2 := P0.keep hb
  have Y1 := Z1.keep hb
  have Y2 := Z2.keep hb
  have f1 := Y2.frozen 0
  rw [zp_eq] at Y2
  have S1 := Y1.other (by omega : w.heap.size + 1 ≠ w.heap.size + 1 + 1) (k := 0) (.slice (some ⟨X.heap.size, 0, none⟩) l.length l.length)
  have S2 := Y2.setSlice (some ⟨X.heap.size, 0, none⟩) l.length l.length
  have PS := P2.other (by omega : w.heap.size ≠ w.heap.size + 1 + 1) (k := 0) (.slice (some ⟨X.heap.size, 0, none⟩) l.length l.length)
  have own2 := own_other own (w' := w2.setCell ⟨w.heap.size + 1 + 1, 0, none⟩ (.slice (some ⟨X.heap.size, 0, none⟩) l.length l.length)) (heap_setCell_other _ _ _ _ (by dsimp only; omega))
  have b3 : Below w.heap.size w (w2.setCell ⟨w.heap.size + 1 + 1, 0, none⟩ (.slice (some ⟨X.heap.size, 0, none⟩) l.length l.length)) := b2.setCell (p := ⟨_, _, none⟩) (by dsimp only; omega) _
  have f1 := Y2.frozen 0
  have g1 := Y2.slice
  obtain ⟨Y, hY⟩ : ∃ Y, Y = w2.setCell ⟨w.heap.size + 1 + 1, 0, none⟩ (.slice (some ⟨X.heap.size, 0, none⟩) l.length l.length) := ⟨_, rfl⟩
  rw [← hY] at S1 S2 PS own2 b3
  have HY := hide hY
  have HR := hide PS.order
  clear Z1 Z2 hb0 hb b2 P2 Y1 Y2 hY own
  go_upto_region 3 with fail
  rw [← HY.out]
  clear f1 g1 HY c0
  go_wp2_with (first | (with_reducible refine wpList_load_oa rfl (.tmp 8) rfl w.heap.size 1 rfl o HR.out ?_))
  refine (toInt8A48_any o _).mono ?_
  rintro e w3 ⟨rfl, hb3⟩
  have b4 := step_below hb3 b3
  have S1' := S1.keep hb3
  have S2' := S2.keep hb3
  have own3 := own_keep own2 hb3
  have HT := hide (S2'.there 1 48 (by rw [prA_size]; omega))
  obtain ⟨Z, hZ⟩ : ∃ Z, Z = w3.setCells (w.heap.size + 1 + 1) 1 (o48 o) := ⟨_, rfl⟩
  have HZ := hide hZ
  have b5 : Below w.heap.size w Z := by rw [hZ]; exact below_setCells' b4 (by omega) 1 _
  have T1 : Bk Z (w.heap.size + 1) 47 zp := by rw [hZ]; exact S1'.otherS (by omega) 1 _
  have T2 : Z.rangeAt (w.heap.size + 1 + 1) 0 (prL (some ⟨X.heap.size, 0, none⟩) l.length l.length o) := by
    rw [hZ]
    refine range_prL ?_ (World.rangeAt_setCells_same _ _ _ _ (by rw [o48_length]; exact HT.out))
    rw [World.cell?_setCells_out _ _ _ _ _ (fun _ _ => Or.inl (by dsimp only; omega))]
    exact S2'.slice
  have ownZ : Z.ownsRow X.heap.size 68 2 (.slice (some ⟨X.heap.size, 0, none⟩) l.length l.length) l.length (secC l) := by
    refine own_other own3 ?_
    rw [hZ]
    exact (heap_setCells_other _ _ _ _ _ (by omega))
  clear hZ S1 S2 PS P0
  go_upto_region 4 with (first | (with_reducible refine wpList_store_oa rfl (.tmp 11) (.tmp 10) rfl (w.heap.size + 1 + 1) 1 o rfl rfl HT.out ?_))
  rw [← HZ.out]
  have HT1 := hide (show Z.heap[w.heap.size + 1]? = some (.cells zp 47 (0, 0)) from T1)
  have HT2 := hide T2
  clear HZ HT
  go_wp2_with (first | (with_reducible refine wpList_load_pr rfl 47 (.tmp 3) rfl (w.heap.size + 1 + 1) 0 rfl _ _ _ _ _ HT2.out Tryz.underlying47 rfl (pInfo _ _ _ _) ?_) | (with_reducible refine wpList_store_row rfl 47 (.tmp 2) (.tmp 12) rfl (w.heap.size + 1) (prA (some ⟨X.heap.size, 0, none⟩) l.length l.length o) rfl rfl 47 _ HT1.out (pInfo _ _ _ _) (by rw [zp_eq, prA_size, prA_size]) (prA_one _ _ _ _) ?_))
  exact bodyPost_ret (v := .agg (prA (some ⟨X.heap.size, 0, none⟩) l.length l.length o)) (results_cell_row Tryz.results11 _ _ (w.heap.size + 1) 47 (prA (some ⟨X.heap.size, 0, none⟩) l.length l.length o) (0, 0) _ (by simp [Act.put]) (setRow_heap _ _ _ _ _ _ HT1.out) Tryz.underlying47 rfl (pInfo _ _ _ _)) rfl ⟨X.heap.size, rfl, by omega, own_other ownZ (setRow_other _ _ _ _ (by omega)), below_setRow' b5 (by omega)⟩
end Go.Proofs.YtehmkablandefaaGreatDoor
