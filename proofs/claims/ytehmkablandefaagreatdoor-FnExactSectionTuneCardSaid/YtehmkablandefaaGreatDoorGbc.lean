import Derived.Test.YtehmkablandefaaGreatDoorGbb
namespace Go.Proofs.YtehmkablandefaaGreatDoor
open Go.RowKit

theorem setRow_alloc' (w : World) (old cs : Array Value) (t : TypeId) : (w.alloc (.cells old t)).setRow w.heap.size cs = w.alloc (.cells cs t) := by
  have h : ((w.alloc (.cells old t)).setRow w.heap.size cs).heap = (w.alloc (.cells cs t)).heap := by
    apply Array.ext_getElem?
    intro i
    by_cases e : i = w.heap.size
    · subst e
      rw [setRow_heap _ _ _ _ _ _ (heap_alloc_new w (.cells old t)), heap_alloc_new]
    · rw [setRow_other _ _ _ _ e]
      rcases Nat.lt_or_ge i w.heap.size with h | h
      · rw [heap_alloc_old w _ h, heap_alloc_old w _ h]
      · rw [Array.getElem?_eq_none (by simp; omega), Array.getElem?_eq_none (by simp; omega)]
  have e : ∀ a b : World, a.heap = b.heap → a.tape = b.tape → a.drawn = b.drawn → a.os = b.os → a.output = b.output → a = b := fun a b h1 h2 h3 h4 h5 => by cases a; cases b; simp_all
  exact e _ _ h rfl rfl rfl rfl
theorem wpList_store_newG {P : Program} {ops : Array Oper} {rest : List Oper} {o : Oper} {a : Act} {w : World} {Q : Exit → Act → World → Prop} (hgd : o.guard = none) (ty : TypeId) (x y : Operand) (ho : o.op = .store ty x y)
    (cs : Array Value) (hx : a.eval x = .pointer (some ⟨w.heap.size, 0, none⟩)) (hy : a.eval y = .agg cs)
    (t : TypeId) (old : Array Value) (hi : (P.info? ty).map (·.size) = some cs.size) (hold : old.size = cs.size) (h1 : cs.all (·.oneCell') = true)
    (h : wpList P ops Q rest (a.put o.dst undef) (w.alloc (.cells cs t))) : wpList P ops Q (o :: rest) a (w.alloc (.cells old t)) := by
  refine wpList_store_row hgd ty x y ho w.heap.size cs hx hy t old (heap_alloc_new w _) hi hold h1 ?_
  rw [setRow_alloc']
  exact h
theorem builtPlan (s : Int) (A : Option Addr) (n c : Nat) (B : Option Addr) (m d : Nat) (o : Nat → Int) : Tryz.prog.built 76 [(0, .agg #[.int .i64 s, .slice A n c]), (1, .agg (prA B m d o))] = some (plA s A n c B m d o) := by kernel_rfl
theorem wpList_buildPlan {ops : Array Oper} {rest : List Oper} {op : Oper} {a : Act} {w : World} {Q : Exit → Act → World → Prop} (hg : op.guard = none) (x y : Operand) (ho : op.op = .build 76 #[(0, x), (1, y)])
    (s : Int) (A : Option Addr) (n c : Nat) (B : Option Addr) (m d : Nat) (o : Nat → Int) (hx : a.eval x = .agg #[.int .i64 s, .slice A n c]) (hy : a.eval y = .agg (prA B m d o))
    (h : wpList Tryz.prog ops Q rest (a.put op.dst (.agg (plA s A n c B m d o))) w) : wpList Tryz.prog ops Q (op :: rest) a w :=
  wpList_buildTo hg 76 #[(0, x), (1, y)] ho op.dst rfl _ (by
    have e : ((#[(0, x), (1, y)] : Array (Nat × Operand)).map fun (i, x) => (i, a.eval x)).toList = [(0, .agg #[.int .i64 s, .slice A n c]), (1, .agg (prA B m d o))] := by simp [hx, hy]
    rw [e]
    exact builtPlan s A n c B m d o) h
theorem Bk.range49 {w : World} {g : Nat} {t : TypeId} {A : Option Addr} {n c : Nat} {o : Nat → Int} (h : Bk w g t (prA A n c o)) : w.rangeAt g 0 (prL A n c o) := h.range 0 _ (fun j v hv => by rw [Nat.zero_add]; simpa [prA] using hv)
/-- a value, or the panic -/
def GivenOr (b : Bool) (v : Value) (w : World) (e : Ending) (w' : World) : Prop := (e = if b then .returned v else .panicked (given 1)) ∧ Below w.heap.size w w'
/-- what the program asks of a programme beside its frame -/
def planB (s : Int) (m : List (Int × Int)) (o : Nat → Int) : Bool := secsI s m && ordB m.length o
set_option maxRecDepth 20000 in
set_option maxHeartbeats 2000000 in
theorem makePlan_any (bf bd bp : Nat) (s : Int) (A : Option Addr) (c : Nat) (l : List (Int × Int)) (Dv : Value) (fb : Bool) (B : Option Addr) (d : Nat) (m : List (Int × Int)) (o : Nat → Int) (w : World) (hF : FP w bf s A l.length c) (hA : HA w A l) (hn : l.length ≤ 1048576) (hwf : HWF l) (hs : -32768 ≤ s ∧ s ≤ 32767)
    (hD : w.cell? ⟨bd, 0, none⟩ = some Dv)
    (hP : Bk w bp 47 (prA B m.length d o)) (hB : SecA w B m) (hm : m.length ≤ 1048576) (hswf : SWF m) (howf : OWF o)
    (hfits : frB s l = true → ∀ W, Below w.heap.size w W → Calls Tryz.prog 81 #[.agg #[.int .i64 s, .slice A l.length c], Dv] W (Says fb W)) :
    Calls Tryz.prog 61 #[.pointer (some ⟨bf, 0, none⟩), .pointer (some ⟨bd, 0, none⟩), .pointer (some ⟨bp, 0, none⟩)] w (GivenOr (frB s l && fb && planB s m o) (.agg (plA s A l.length c B m.length d o)) w) := by
  have hz := zeroPln
  obtain ⟨ok, hok⟩ : ∃ ok, (frB s l && fb) = ok := ⟨_, rfl⟩
  rw [hok]
  have HOK := hide hok
  clear hok
  obtain ⟨c0, c1⟩ := id hF
  have hal : Below w.heap.size w (w.alloc (.cells zpl 76)) := (Below.refl _ _).alloc (Nat.le_refl _) _
  have Z0 : Bk (w.alloc (.cells zpl 76)) w.heap.size 76 zpl := Bk.new _ _ _ rfl
  have F1 := hF.keep hal
  have D1 := (hal.cell (p := ⟨bd, 0, none⟩) (World.block_lt_of_cell? _ _ hD)).trans hD
  have P1 := hP.keep hal
  obtain ⟨X, hX⟩ : ∃ X, X = w.alloc (.cells zpl 76) := ⟨_, rfl⟩
  rw [← hX] at hal Z0 F1 D1 P1
  have hXs : w.heap.size < X.heap.size := Z0.lt
  go_enter Tryz.func61, Tryz.ntmps61
  go_upto_region 1 with fail
  rw [← hX]
  clear hX c0 c1 hz
  obtain ⟨c0, c1⟩ := id F1
  go_wp2_with fail
  refine (machineFor_any s A c l Dv fb _ (hA.below hal) hn hwf hs (fun h W hW => hfits h W (step_below hW hal))).mono ?_
  rintro e w1 ⟨rfl, hb1⟩
  have b1 := step_below hb1 hal
  have Z1 := Z0.keep hb1
  have P2 := P1.keep hb1
  have hs1 := hb1.size
  have hal2 : Below w1.heap.size w1 (w1.alloc (.cells #[.int .i64 s, .slice A l.length c] 74)) := (Below.refl _ _).alloc (Nat.le_refl _) _
  have b2 := step_below hal2 b1
  rw [HOK.out]
  clear HOK
  cases ok
  · go_wp2_with (go_at_call 63; refine (need_no 1 _).mono ?_; rintro e w' ⟨rfl, rfl⟩)
    exact ⟨rfl, rfl, b2⟩
  have P3 := P2.keep hal2
  have Z3 := Z1.keep hal2
  have HR := hide P3.range49
  obtain ⟨X2, hX2⟩ : ∃ X2, X2 = w1.alloc (.cells #[.int .i64 s, .slice A l.length c] 74) := ⟨_, rfl⟩
  have hs2 : w1.heap.size < X2.heap.size := by rw [hX2]; simp
  have hm0 : X2.cell? ⟨w1.heap.size, 0, none⟩ = some (.int .i64 s) := by rw [hX2]; simp [go_sem]
  have hm1 : X2.cell? ⟨w1.heap.size, 1, none⟩ = some (.slice A l.length c) := by rw [hX2]; simp [go_sem]
  rw [← hX2] at hal2 b2 P3 Z3 HR
  go_upto_region 3 with (go_at_call 63; refine (need_yes 1 _).mono ?_; rintro e w' ⟨rfl, rfl⟩)
  rw [← hX2]
  have hm' := hm
  clear hX2 P1 P2 Z0 Z1 c0 c1 hm
  have hz := zeroPln
  go_upto_region 4 with (first | (with_reducible refine wpList_load_pr rfl 47 (.tmp 2) rfl bp 0 rfl _ _ _ _ _ HR.out Tryz.underlying47 rfl (pInfo _ _ _ _) ?_) | (with_reducible refine wpList_buildPlan rfl (.tmp 15) (.tmp 16) rfl s A l.length c B m.length d o rfl rfl ?_) | (with_reducible refine wpList_store_newG rfl 76 (.tmp 6) (.tmp 17) rfl (plA s A l.length c B m.length d o) rfl rfl 76 _ plInfo (by rw [zpl_eq, plA_size, plA_size]) plA_one ?_))
  have hal3 : Below X2.heap.size X2 (X2.alloc (.cells (plA s A l.length c B m.length d o) 76)) := (Below.refl _ _).alloc (Nat.le_refl _) _
  have Q0 : Bk (X2.alloc (.cells (plA s A l.length c B m.length d o) 76)) X2.heap.size 76 (plA s A l.length c B m.length d o) := Bk.new _ _ _ rfl
  obtain ⟨X3, hX3⟩ : ∃ X3, X3 = X2.alloc (.cells (plA s A l.length c B m.length d o) 76) := ⟨_, rfl⟩
  rw [← hX3] at hal3 Q0
  rw [← hX3]
  clear hX3 hz hm0 hm1
  have Z4 := Z3.keep hal3
  have b3 := step_below hal3 b2
  have HQ := hide Q0.plRange
  go_wp2_with (with_reducible refine wpList_load_pl rfl (.tmp 6) rfl X2.heap.size 0 rfl _ _ _ _ _ _ _ _ HQ.out ?_)
  refine (needSections_any s A l.length c B d m o _ (hB.below b3) hm' hswf).mono ?_
  rintro e w4 ⟨he4, hb4⟩
  have b4 := step_below hb4 b3
  cases h1 : secsI s m
  · rw [h1] at he4
    subst he4
    exact ⟨rfl, by simp [planB, h1], b4⟩
  rw [h1] at he4
  subst he4
  have Q4 := Q0.keep hb4
  have HQ4 := hide Q4.plRange
  have H1 := hide h1
  clear h1
  go_wp2_with (with_reducible refine wpList_load_pl rfl (.tmp 6) rfl X2.heap.size 0 rfl _ _ _ _ _ _ _ _ HQ4.out ?_)
  refine (needOrder_any s A l.length c B m.length d o _ hm' howf).mono ?_
  rintro e w5 ⟨he5, hb5⟩
  have b5 := step_below hb5 b4
  cases h2 : ordB m.length o
  · rw [h2] at he5
    subst he5
    exact ⟨rfl, by simp [planB, h2], b5⟩
  rw [h2] at he5
  subst he5
  have HQ5 := hide (Q4.keep hb5).plRange
  have HZ5 := hide (show w5.heap[w.heap.size]? = some (.cells zpl 76 (0, 0)) from (Z4.keep hb4).keep hb5)
  have H2 := hide h2
  clear h2
  go_wp2_with (first | (with_reducible refine wpList_load_pl rfl (.tmp 6) rfl X2.heap.size 0 rfl _ _ _ _ _ _ _ _ HQ5.out ?_) | (with_reducible refine wpList_store_row rfl 76 (.tmp 3) (.tmp 22) rfl w.heap.size (plA s A l.length c B m.length d o) rfl rfl 76 _ HZ5.out plInfo (by rw [zpl_eq, plA_size, plA_size]) plA_one ?_))
  exact bodyPost_ret (v := .agg (plA s A l.length c B m.length d o)) (results_cell_row Tryz.results61 _ _ w.heap.size 76 (plA s A l.length c B m.length d o) (0, 0) _ (by simp [Act.put]) (setRow_heap _ _ _ _ _ _ HZ5.out) Tryz.underlying76 rfl plInfo) rfl ⟨by simp [planB, H1.out, H2.out], below_setRow' b5 (Nat.le_refl _)⟩
end Go.Proofs.YtehmkablandefaaGreatDoor
namespace Go.Proofs.YtehmkablandefaaGreatDoor
open Go.RowKit

theorem results_pc {fn : Func} {p q : Tmp} (h : fn.results = #[.cell p 76, .cell q 2]) (tmps : Array Value) (w : World) (g k : Nat) (t t' : TypeId) (cs : Array Value) (x : Int)
    (hp : tmps.getD p undef = .pointer (some ⟨g, 0, none⟩)) (hq : tmps.getD q undef = .pointer (some ⟨k, 0, none⟩)) (hg : w.heap[g]? = some (.cells cs t (0, 0))) (hk : w.heap[k]? = some (.cells #[.int .i64 x] t' (0, 0)))
    (hi : (Tryz.prog.info? 76).map (·.size) = some cs.size) :
    (results fn tmps).run Tryz.prog w = .ok (.tuple #[.agg cs, .int .i64 x]) w := by
  have hp' : tmps[p]?.getD undef = .pointer (some ⟨g, 0, none⟩) := by simpa using hp
  have hq' : tmps[q]?.getD undef = .pointer (some ⟨k, 0, none⟩) := by simpa using hq
  have hc : w.cell? ⟨k, 0, none⟩ = some (.int .i64 x) := (cell_of_row w k 0 _ _ _ hk).trans rfl
  have h1 := run_loadVar_row w g t 76 cs (0, 0) _ hg Tryz.underlying76 rfl hi
  have h2 : (loadVar 2 ⟨k, 0, none⟩).run Tryz.prog w = .ok (.int .i64 x) w := by simp [go_sem, hc]
  simp [results, h, hp', hq', asAddr, h1, h2]
/-- a plan and a code -/
def PlanC (b : Bool) (cs : Array Value) (w : World) (e : Ending) (w' : World) : Prop := e = .returned (.tuple #[.agg (if b then cs else zpl), .int .i64 (if b then 0 else 1)]) ∧ Below w.heap.size w w'
set_option maxRecDepth 20000 in
set_option maxHeartbeats 2000000 in
theorem guarded_any (p1 p2 p3 : Value) (b : Bool) (s : Int) (A : Option Addr) (n c : Nat) (B : Option Addr) (m d : Nat) (o : Nat → Int) (w : World)
    (hK : ∀ W, Below w.heap.size w W → Calls Tryz.prog 61 #[p1, p2, p3] W (GivenOr b (.agg (plA s A n c B m d o)) W)) :
    Calls Tryz.prog 60 #[.func (.func 61) #[] #[p1, p2, p3]] w (PlanC b (plA s A n c B m d o) w) := by
  have hmf : ∀ (fn : Fn) (first cap : Array Value) (w : World), (Instr.makeFunc fn first cap).run Tryz.prog w = .ok (.func fn first cap) w := fun _ _ _ _ => rfl
  have hz := zeroPln
  go_enter_defers Tryz.func60, Tryz.ntmps60
  go_wp2_with fail
  have hb0 : Below w.heap.size w ((w.alloc (.cells zpl 76)).alloc (.cells #[.int .i64 1] 2)) := ((Below.refl _ _).alloc (Nat.le_refl _) _).alloc (by simp) _
  have Z0 : Bk ((w.alloc (.cells zpl 76)).alloc (.cells #[.int .i64 1] 2)) w.heap.size 76 zpl := (Bk.new _ _ _ rfl).old _
  have C0 : Bk ((w.alloc (.cells zpl 76)).alloc (.cells #[.int .i64 1] 2)) (w.heap.size + 1) 2 #[.int .i64 1] := Bk.new _ _ _ (by simp)
  refine (hK _ hb0).mono ?_
  rintro e w2 ⟨he, hb2⟩
  have b2 := step_below hb2 hb0
  have Z2 := Z0.keep hb2
  have C2 := C0.keep hb2
  have c2 := C2.cell (i := 0) rfl
  have f2 := C2.frozen 0
  clear hb0 Z0 C0 hb2 hz
  cases b
  · subst he
    refine leaves_cons (f := 78) (args := #[.pointer (some ⟨w.heap.size + 1, 0, none⟩)]) (by simp) (by simp [go_sem]) ?_
    refine (catch_given (w.heap.size + 1) 1 1 [] _ c2 f2).mono ?_
    rintro e u' w'' ⟨rfl, rfl, rfl⟩
    have hx : Below w2.heap.size w2 (w2.alloc (.cells #[.int .i64 1] 131)) := (Below.refl _ _).alloc (Nat.le_refl _) _
    have Z3 := (Z2.keep hx).other (by omega : w.heap.size ≠ w.heap.size + 1) (k := 0) (.int .i64 1)
    have C3 : Bk ((w2.alloc (.cells #[.int .i64 1] 131)).setCell ⟨w.heap.size + 1, 0, none⟩ (.int .i64 1)) (w.heap.size + 1) 2 #[.int .i64 1] := heap_setCell_same _ _ 0 _ _ (.int .i64 1) (C2.keep hx)
    exact ⟨_, results_pc Tryz.results60 _ _ w.heap.size (w.heap.size + 1) _ _ _ _ rfl rfl Z3 C3 (by rw [zpl_eq]; exact plInfo), rfl, (step_below hx b2).setCell (p := ⟨_, _, none⟩) (by dsimp only; omega) _⟩
  · subst he
    have HZ := hide (show w2.heap[w.heap.size]? = some (.cells zpl 76 (0, 0)) from Z2)
    have Z3 : Bk (w2.setRow w.heap.size (plA s A n c B m d o)) w.heap.size 76 (plA s A n c B m d o) := setRow_heap _ _ _ _ _ _ HZ.out
    have C3 : Bk (w2.setRow w.heap.size (plA s A n c B m d o)) (w.heap.size + 1) 2 #[.int .i64 1] := (setRow_other _ _ _ _ (by omega)).trans C2
    have b3 : Below w.heap.size w (w2.setRow w.heap.size (plA s A n c B m d o)) := below_setRow' b2 (Nat.le_refl _)
    have c3 := C3.cell (i := 0) rfl
    have f3 := C3.frozen 0
    go_wp2_with (with_reducible refine wpList_store_row rfl 76 (.tmp 2) (.tmp 6) rfl w.heap.size (plA s A n c B m d o) rfl rfl 76 _ HZ.out plInfo (by rw [zpl_eq, plA_size, plA_size]) plA_one ?_)
    refine leaves_cons (f := 78) (args := #[.pointer (some ⟨w.heap.size + 1, 0, none⟩)]) (by simp) (by simp [go_sem]) ?_
    refine (catch_none ⟨w.heap.size + 1, 0, none⟩ _).mono ?_
    rintro e u' w'' ⟨rfl, rfl, rfl⟩
    have Z4 := Z3.other (by omega : w.heap.size ≠ w.heap.size + 1) (k := 0) (.int .i64 0)
    have C4 : Bk ((w2.setRow w.heap.size (plA s A n c B m d o)).setCell ⟨w.heap.size + 1, 0, none⟩ (.int .i64 0)) (w.heap.size + 1) 2 #[.int .i64 0] := heap_setCell_same _ _ 0 _ _ (.int .i64 0) C3
    exact ⟨_, results_pc Tryz.results60 _ _ w.heap.size (w.heap.size + 1) _ _ _ _ rfl rfl Z4 C4 plInfo, rfl, b3.setCell (p := ⟨_, _, none⟩) (by dsimp only; omega) _⟩
end Go.Proofs.YtehmkablandefaaGreatDoor
