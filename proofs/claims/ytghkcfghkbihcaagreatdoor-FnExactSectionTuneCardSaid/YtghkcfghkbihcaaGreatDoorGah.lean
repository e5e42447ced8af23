import Derived.Test.YtghkcfghkbihcaaGreatDoorGag
import Derived.Deep.CutRange
import Derived.Test.YtghkcfghkbihcaaGreatDoorFre
import Derived.Maps.AppendAt
namespace Go.Proofs.YtghkcfghkbihcaaGreatDoor
open Go.RowKit

/-- a programme's cells -/
def prL (A : Option Addr) (n c : Nat) (o : Nat → Int) : List Value := .slice A n c :: o48 o
def prA (A : Option Addr) (n c : Nat) (o : Nat → Int) : Array Value := (prL A n c o).toArray
theorem prL_length (A : Option Addr) (n c : Nat) (o : Nat → Int) : (prL A n c o).length = 49 := by simp [prL, o48_length]
theorem prA_size (A : Option Addr) (n c : Nat) (o : Nat → Int) : (prA A n c o).size = 49 := by simp [prA, prL_length]
theorem prA_one (A : Option Addr) (n c : Nat) (o : Nat → Int) : (prA A n c o).all (·.oneCell') = true := all_oneCell_toArray (by
  intro v hv
  rcases List.mem_cons.1 hv with rfl | h
  · rfl
  · exact o48_one o v h)
theorem prA_zero (A : Option Addr) (n c : Nat) (o : Nat → Int) : (prA A n c o)[0]? = some (.slice A n c) := rfl
theorem prA_ord (A : Option Addr) (n c : Nat) (o : Nat → Int) (j : Nat) (v : Value) (h : (o48 o)[j]? = some v) : (prA A n c o)[1 + j]? = some v := by
  rw [Nat.add_comm]
  simpa [prA, prL] using h
def zp : Array Value := (.slice none 0 0 :: List.replicate 48 (.int .i8 0)).toArray
theorem zp_eq : zp = prA none 0 0 fun _ => 0 := by
  unfold zp prA prL o48
  simp [List.map_const']
theorem zeroPrg (w : World) : (zeroValue 47).run Tryz.prog w = .ok (.agg zp) w := by kernel_rfl
theorem info47 : (Tryz.prog.info? 47).map (·.size) = some 49 := by kernel_rfl
theorem info32 : (Tryz.prog.info? 32).map (·.size) = some 49 := by kernel_rfl
theorem pInfo (A : Option Addr) (n c : Nat) (o : Nat → Int) : (Tryz.prog.info? 47).map (·.size) = some (prA A n c o).size := by rw [prA_size]; exact info47
theorem pInfoL (A : Option Addr) (n c : Nat) (o : Nat → Int) : (Tryz.prog.info? 32).map (·.size) = some (prA A n c o).size := by rw [prA_size]; exact info32
theorem Bk.slice {w : World} {g : Nat} {t : TypeId} {A : Option Addr} {n c : Nat} {o : Nat → Int} (h : Bk w g t (prA A n c o)) : w.cell? ⟨g, 0, none⟩ = some (.slice A n c) := h.cell (prA_zero A n c o)
theorem Bk.order {w : World} {g : Nat} {t : TypeId} {A : Option Addr} {n c : Nat} {o : Nat → Int} (h : Bk w g t (prA A n c o)) : w.rangeAt g 1 (o48 o) := h.range 1 _ (prA_ord A n c o)

theorem szProgramme_small (A : Option Addr) (n c : Nat) (o : Nat → Int) (x : Int) (h0 : 0 ≤ x) (h1 : x ≤ 1048576) (hn : n ≤ maxLen) (hs : (n : Int) ≤ x) (w : World) :
    Calls Tryz.prog 7 #[.agg (prA A n c o), .int .i64 x] w fun e w' => e = .returned (.int .i64 (x - n)) ∧ Below w.heap.size w w' := by
  have hb0 : Below w.heap.size w (w.alloc (.cells (prA A n c o) 32)) := (Below.refl _ _).alloc (Nat.le_refl _) _
  have c0 := (Bk.new w 32 (prA A n c o) rfl).slice
  have hlt : decide (x - (n : Int) < 0) = false := by simp; omega
  go_enter Tryz.func7, Tryz.ntmps7
  go_wp2_with (go_at_call 25; refine (szSectionS_small A n c x h0 h1 hn hs _).mono ?_; rintro e w' ⟨rfl, rfl⟩)
  go_ret
  exact ⟨rfl, hb0⟩
theorem szProgramme_big (A : Option Addr) (n c : Nat) (o : Nat → Int) (x : Int) (h0 : 0 ≤ x) (h1 : x ≤ 1048576) (hn : n ≤ maxLen) (hs : x < (n : Int)) (w : World) :
    Calls Tryz.prog 7 #[.agg (prA A n c o), .int .i64 x] w fun e w' => e = .returned (.int .i64 (-1)) ∧ Below w.heap.size w w' := by
  have hb0 : Below w.heap.size w (w.alloc (.cells (prA A n c o) 32)) := (Below.refl _ _).alloc (Nat.le_refl _) _
  have c0 := (Bk.new w 32 (prA A n c o) rfl).slice
  go_enter Tryz.func7, Tryz.ntmps7
  go_wp2_with (go_at_call 25; refine (szSectionS_big A n c x h0 h1 hn hs _).mono ?_; rintro e w' ⟨rfl, rfl⟩)
  go_ret
  exact ⟨rfl, hb0⟩

theorem wpList_load_oa {ops : Array Oper} {rest : List Oper} {op : Oper} {a : Act} {w : World} {Q : Exit → Act → World → Prop} (hgd : op.guard = none) (x : Operand) (ho : op.op = .load 30 x)
    (b p : Nat) (hx : a.eval x = .pointer (some ⟨b, p, none⟩)) (o : Nat → Int) (hc : w.rangeAt b p (o48 o))
    (h : wpList Tryz.prog ops Q rest (a.put op.dst (.agg (oa o))) w) : wpList Tryz.prog ops Q (op :: rest) a w :=
  wpList_load_mid hgd 30 x ho b p hx (o48 o) _ hc Tryz.underlying30 rfl (oInfo o) h
theorem wpList_load_pr {ops : Array Oper} {rest : List Oper} {op : Oper} {a : Act} {w : World} {Q : Exit → Act → World → Prop} (hgd : op.guard = none) (ty : TypeId) (x : Operand) (ho : op.op = .load ty x)
    (b p : Nat) (hx : a.eval x = .pointer (some ⟨b, p, none⟩)) (A : Option Addr) (n c : Nat) (o : Nat → Int) (d : TypeDesc) (hc : w.rangeAt b p (prL A n c o)) (hu : Tryz.prog.underlying ty = some d) (hd : d.isRow = true) (hi : (Tryz.prog.info? ty).map (·.size) = some (prA A n c o).size)
    (h : wpList Tryz.prog ops Q rest (a.put op.dst (.agg (prA A n c o))) w) : wpList Tryz.prog ops Q (op :: rest) a w :=
  wpList_load_mid hgd ty x ho b p hx (prL A n c o) d hc hu hd (by rw [hi, prA_size, prL_length]) h
theorem wpList_store_oa {ops : Array Oper} {rest : List Oper} {o : Oper} {a : Act} {w : World} {Q : Exit → Act → World → Prop} (hgd : o.guard = none) (x y : Operand) (ho : o.op = .store 30 x y)
    (b p : Nat) (q : Nat → Int) (hx : a.eval x = .pointer (some ⟨b, p, none⟩)) (hy : a.eval y = .agg (oa q))
    (ht : w.there b p 48)
    (h : wpList Tryz.prog ops Q rest (a.put o.dst undef) (w.setCells b p (o48 q))) : wpList Tryz.prog ops Q (o :: rest) a w :=
  wpList_store_mid hgd 30 x y ho b p (oa q) hx hy (by rw [oa_size]; exact ht) (oInfoA q) (oa_one q) h
theorem range_prL {w : World} {g : Nat} {A : Option Addr} {n c : Nat} {o : Nat → Int} (h0 : w.cell? ⟨g, 0, none⟩ = some (.slice A n c)) (h1 : w.rangeAt g 1 (o48 o)) : w.rangeAt g 0 (prL A n c o) := by
  intro j v hv
  cases j with
  | zero => simp only [prL, List.getElem?_cons_zero, Option.some.injEq] at hv; subst hv; exact h0
  | succ j => rw [Nat.zero_add, Nat.add_comm]; exact h1 j v (by simpa [prL] using hv)
theorem Bk.there {w : World} {g : Nat} {t : TypeId} {cs : Array Value} (h : Bk w g t cs) (p n : Nat) (hn : p + n ≤ cs.size) : w.there g p n := fun j hj =>
  ⟨by rw [h.cell (Array.getElem?_eq_getElem (by omega) : cs[p + j]? = _)]; rfl, h.frozen _⟩
theorem Bk.setSlice {w : World} {g : Nat} {t : TypeId} {A : Option Addr} {n c : Nat} {o : Nat → Int} (h : Bk w g t (prA A n c o)) (B : Option Addr) (m e : Nat) : Bk (w.setCell ⟨g, 0, none⟩ (.slice B m e)) g t (prA B m e o) :=
  heap_setCell_same w g 0 _ _ (.slice B m e) h
theorem heap_setCells_other (b : Nat) (k : Nat) : ∀ (vs : List Value) (p : Nat) (w : World), k ≠ b → (w.setCells b p vs).heap[k]? = w.heap[k]?
  | [], _, _, _ => rfl
  | v :: r, p, w, h => (heap_setCells_other b k r (p + 1) _ h).trans (heap_setCell_other w ⟨b, p, none⟩ k v h)
theorem Bk.otherS {w : World} {g b : Nat} {t : TypeId} {cs : Array Value} (h : Bk w g t cs) (hne : g ≠ b) (p : Nat) (vs : List Value) : Bk (w.setCells b p vs) g t cs := by
  induction vs generalizing w p with
  | nil => exact h
  | cons v r ih => exact ih (h.other hne v) (p + 1)

/-- what toProgramme leaves: a programme whose sections lie under an address of its own -/
def MadeP (w : World) (l : List (Int × Int)) (o : Nat → Int) (e : Ending) (w' : World) : Prop :=
  ∃ g, e = .returned (.agg (prA (some ⟨g, 0, none⟩) l.length l.length o)) ∧ w.heap.size ≤ g ∧ w'.ownsRow g 68 2 (.slice (some ⟨g, 0, none⟩) l.length l.length) l.length (secC l) ∧ Below w.heap.size w w'
set_option maxRecDepth 20000 in
set_option maxHeartbeats 1000000 in
theorem toProgramme_any (A : Option Addr) (c : Nat) (l : List (Int × Int)) (o : Nat → Int) (w : World) (hA : SecA w A l) (hn : l.length ≤ 1048576) :
    Calls Tryz.prog 11 #[.agg (prA A l.length c o)] w (MadeP w l o) := by
  have hz := zeroPrg
  obtain ⟨X, hX⟩ : ∃ X, X = ((w.alloc (.cells (prA A l.length c o) 32)).alloc (.cells zp 47)).alloc (.cells zp 47) := ⟨_, rfl⟩
  have hb0 : Below w.heap.size w X := by rw [hX]; exact (((Below.refl _ _).alloc (Nat.le_refl _) _).alloc (by simp) _).alloc (by simp; omega) _
  have hXs : w.heap.size + 1 + 1 < X.heap.size := by rw [hX]; simp
  have P0 : Bk X w.heap.size 32 (prA A l.length c o) := by rw [hX]; exact (Bk.new _ _ _ rfl).old _ |>.old _
  have Z1 : Bk X (w.heap.size + 1) 47 zp := by rw [hX]; exact (Bk.new _ _ _ (by simp)).old _
  have Z2 : Bk X (w.heap.size + 1 + 1) 47 zp := by rw [hX]; exact Bk.new _ _ _ (by simp)
  go_enter Tryz.func11, Tryz.ntmps11
  go_upto_region 2 with fail
  rw [← hX]
  clear hX hz
  have c0 := P0.slice
  go_wp2_with fail
  refine (toSectionS_any A c l _ (hA.below hb0) hn).mono ?_
  rintro e w2 ⟨rfl, own, hb⟩
  have b2 := step_below hb hb0
  have P2 := P0.keep hb
  have Y1 := Z1.keep hb
  have Y2 := Z2.keep hb
  have f1 := Y2.frozen 0
  rw [zp_eq] at Y2
  have S1 := Y1.other (by omega : w.heap.size + 1 ≠ w.heap.size + 1 + 1) (k := 0) (.slice (some ⟨X.heap.size, 0, none⟩) l.length l.length)
  have S2 := Y2.setSlice (some ⟨X.heap.size, 0, none⟩) l.length l.length
  have PS := P2.other (by omega : w.heap.size ≠ w.heap.size + 1 + 1) (k := 0) (.slice (some ⟨X.heap.size, 0, none⟩) l.length l.length)
  have own2 := own_other own (w' := w2.setCell ⟨w.heap.size + 1 + 1, 0, none⟩ (.slice (some ⟨X.heap.size, 0, none⟩) l.length l.length)) (heap_setCell_other _ _ _ _ (by dsimp only; omega))
  have b3 : Below w.heap.size w (w2.setCell ⟨w.heap.size + 1 + 1, 0, none⟩ (.slice (some ⟨X.heap.size, 0, none⟩) l.length l.length)) := b2.setCell (p := ⟨_, _, none⟩) (by dsimp only; omega) _
  have f1 := Y2.frozen 0
  have g1 := Y2.slice
  obtain ⟨Y, hY⟩ : ∃ Y, Y = w2.setCell ⟨w.heap.size + 1 + 1, 0, none⟩ (.slice (some ⟨X.heap.size, 0, none⟩) l.length l.length) := ⟨_, rfl⟩
  rw [← hY] at S1 S2 PS own2 b3
  have HY := hide hY
  have HR := hide PS.order
  clear Z1 Z2 hb0 hb b2 P2 Y1 Y2 hY own
  go_upto_region 3 with fail
  rw [← HY.out]
  clear f1 g1 HY c0
  go_wp2_with (first | (with_reducible refine wpList_load_oa rfl (.tmp 8) rfl w.heap.size 1 rfl o HR.out ?_))
  refine (toInt8A48_any o _).mono ?_
  rintro e w3 ⟨rfl, hb3⟩
  have b4 := step_below hb3 b3
  have S1' := S1.keep hb3
  have S2' := S2.keep hb3
  have own3 := own_keep own2 hb3
  have HT := hide (S2'.there 1 48 (by rw [prA_size]; omega))
  obtain ⟨Z, hZ⟩ : ∃ Z, Z = w3.setCells (w.heap.size + 1 + 1) 1 (o48 o) := ⟨_, rfl⟩
  have HZ := hide hZ
  have b5 : Below w.heap.size w Z := by rw [hZ]; exact below_setCells' b4 (by omega) 1 _
  have T1 : Bk Z (w.heap.size + 1) 47 zp := by rw [hZ]; exact S1'.otherS (by omega) 1 _
  have T2 : Z.rangeAt (w.heap.size + 1 + 1) 0 (prL (some ⟨X.heap.size, 0, none⟩) l.length l.length o) := by
    rw [hZ]
    refine range_prL ?_ (World.rangeAt_setCells_same _ _ _ _ (by rw [o48_length]; exact HT.out))
    rw [World.cell?_setCells_out _ _ _ _ _ (fun _ _ => Or.inl (by dsimp only; omega))]
    exact S2'.slice
  have ownZ : Z.ownsRow X.heap.size 68 2 (.slice (some ⟨X.heap.size, 0, none⟩) l.length l.length) l.length (secC l) := by
    refine own_other own3 ?_
    rw [hZ]
    exact (heap_setCells_other _ _ _ _ _ (by omega))
  clear hZ S1 S2 PS P0
  go_upto_region 4 with (first | (with_reducible refine wpList_store_oa rfl (.tmp 11) (.tmp 10) rfl (w.heap.size + 1 + 1) 1 o rfl rfl HT.out ?_))
  rw [← HZ.out]
  have HT1 := hide (show Z.heap[w.heap.size + 1]? = some (.cells zp 47 (0, 0)) from T1)
  have HT2 := hide T2
  clear HZ HT
  go_wp2_with (first | (with_reducible refine wpList_load_pr rfl 47 (.tmp 3) rfl (w.heap.size + 1 + 1) 0 rfl _ _ _ _ _ HT2.out Tryz.underlying47 rfl (pInfo _ _ _ _) ?_) | (with_reducible refine wpList_store_row rfl 47 (.tmp 2) (.tmp 12) rfl (w.heap.size + 1) (prA (some ⟨X.heap.size, 0, none⟩) l.length l.length o) rfl rfl 47 _ HT1.out (pInfo _ _ _ _) (by rw [zp_eq, prA_size, prA_size]) (prA_one _ _ _ _) ?_))
  exact bodyPost_ret (v := .agg (prA (some ⟨X.heap.size, 0, none⟩) l.length l.length o)) (results_cell_row Tryz.results11 _ _ (w.heap.size + 1) 47 (prA (some ⟨X.heap.size, 0, none⟩) l.length l.length o) (0, 0) _ (by simp [Act.put]) (setRow_heap _ _ _ _ _ _ HT1.out) Tryz.underlying47 rfl (pInfo _ _ _ _)) rfl ⟨X.heap.size, rfl, by omega, own_other ownZ (setRow_other _ _ _ _ (by omega)), below_setRow' b5 (by omega)⟩
end Go.Proofs.YtghkcfghkbihcaaGreatDoor
namespace Go.Proofs.YtghkcfghkbihcaaGreatDoor
open Go.RowKit


/-- the set of the first k hammers' pitches, as the walk spells it -/
def belTo (l : List (Int × Int)) : Nat → Int
  | 0 => 0
  | k + 1 => bits .or .u64 (belTo l k) (IntKind.u64.wrap (2 ^ (hPi l k).toNat))
def belI (l : List (Int × Int)) : Int := belTo l l.length
theorem HG.at {s : Int} {l : List (Int × Int)} {n k : Nat} (h : HG s l n) (hk : k < n) : (0 ≤ hPi l k ∧ hPi l k ≤ 47) ∧ (1 ≤ hRe l k ∧ hRe l k ≤ 20 ∧ hRe l k ≤ s) := by
  have := h k hk
  simp only [hamB, inB, Bool.and_eq_true, decide_eq_true_eq] at this
  have hm : mnI s ≤ 20 ∧ mnI s ≤ s := by unfold mnI; split <;> omega
  omega

end Go.Proofs.YtghkcfghkbihcaaGreatDoor
namespace Go.Proofs.YtghkcfghkbihcaaGreatDoor
open Go.RowKit

/-- the tracks ahead of k whose hammer has a pitch -/
def trk (l : List (Int × Int)) (p : Int) (k : Nat) : List Nat := (List.range k).filter fun j => decide (hPi l j = p)
def tcells (ts : List Nat) : List Value := ts.map fun (j : Nat) => .int .i64 (j : Int)
theorem trk_len (l : List (Int × Int)) (p : Int) (k : Nat) : (trk l p k).length ≤ k := by simpa [trk] using List.length_filter_le (fun j => decide (hPi l j = p)) (List.range k)
theorem trk_yes {l : List (Int × Int)} {p : Int} {k : Nat} (h : hPi l k = p) : trk l p (k + 1) = trk l p k ++ [k] := by simp [trk, List.range_succ, List.filter_append, h]
theorem trk_no {l : List (Int × Int)} {p : Int} {k : Nat} (h : ¬ hPi l k = p) : trk l p (k + 1) = trk l p k := by simp [trk, List.range_succ, List.filter_append, h]
def hamN (l : List (Int × Int)) (p : Int) : Nat := (trk l p l.length).length

/-- a slice of the call's own comes back -/
def OwnL (w : World) (xs : List Nat) (e : Ending) (w' : World) : Prop := ∃ (A : Option Addr) (c : Nat), e = .returned (.slice A xs.length c) ∧ w'.ownsRow w.heap.size 2 1 (.slice A xs.length c) xs.length (tcells xs) ∧ Below w.heap.size w w'
theorem own_shape {w : World} {base n : Nat} {e : TypeId} {size : Nat} {v : Value} {xs : List Value} (h : w.ownsRow base e size v n xs) : ∃ A c, v = .slice A n c := by
  rcases h.2 with ⟨h1, h2⟩ | ⟨g, cap, cur, h1, _⟩
  · exact ⟨none, 0, by rw [h1, h2]⟩
  · exact ⟨_, _, h1⟩
/-- ErrInvalid, then ErrRange -/
def cod3 (a b : Bool) : Int := if a then (if b then 0 else 2) else 1
end Go.Proofs.YtghkcfghkbihcaaGreatDoor
