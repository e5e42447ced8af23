import Derived.Test.YtehmkablandefaaGreatDoorGba
import Derived.Recover
namespace Go.Proofs.YtehmkablandefaaGreatDoor
open Go.RowKit

/-- a plan's cells -/
def plL (s : Int) (A : Option Addr) (n c : Nat) (B : Option Addr) (m d : Nat) (o : Nat → Int) : List Value := .int .i64 s :: .slice A n c :: .slice B m d :: o48 o
def plA (s : Int) (A : Option Addr) (n c : Nat) (B : Option Addr) (m d : Nat) (o : Nat → Int) : Array Value := (plL s A n c B m d o).toArray
section
variable {s : Int} {A : Option Addr} {n c : Nat} {B : Option Addr} {m d : Nat} {o : Nat → Int} {w : World} {g : Nat} {t : TypeId}
theorem plL_length : (plL s A n c B m d o).length = 51 := by simp [plL, o48_length]
theorem plA_size : (plA s A n c B m d o).size = 51 := by simp [plA, plL_length]
theorem plA_one : (plA s A n c B m d o).all (·.oneCell') = true := all_oneCell_toArray (by
  intro v hv
  rcases List.mem_cons.1 hv with rfl | hv
  · rfl
  rcases List.mem_cons.1 hv with rfl | hv
  · rfl
  rcases List.mem_cons.1 hv with rfl | h
  · rfl
  · exact o48_one o v h)
theorem plA_steps : (plA s A n c B m d o)[0]? = some (.int .i64 s) := rfl
theorem plA_hams : (plA s A n c B m d o)[1]? = some (.slice A n c) := rfl
theorem plA_secs : (plA s A n c B m d o)[2]? = some (.slice B m d) := rfl
theorem plA_ord (j : Nat) (v : Value) (h : (o48 o)[j]? = some v) : (plA s A n c B m d o)[3 + j]? = some v := by
  rw [Nat.add_comm]
  simpa [plA, plL] using h
theorem Bk.plSteps (h : Bk w g t (plA s A n c B m d o)) : w.cell? ⟨g, 0, none⟩ = some (.int .i64 s) := h.cell plA_steps
theorem Bk.plHams (h : Bk w g t (plA s A n c B m d o)) : w.cell? ⟨g, 1, none⟩ = some (.slice A n c) := h.cell plA_hams
theorem Bk.plSecs (h : Bk w g t (plA s A n c B m d o)) : w.cell? ⟨g, 2, none⟩ = some (.slice B m d) := h.cell plA_secs
theorem Bk.plOrd (h : Bk w g t (plA s A n c B m d o)) : w.rangeAt g 3 (o48 o) := h.range 3 _ plA_ord
theorem info76 : (Tryz.prog.info? 76).map (·.size) = some 51 := by kernel_rfl
theorem plInfo : (Tryz.prog.info? 76).map (·.size) = some (plA s A n c B m d o).size := by rw [plA_size]; exact info76
def zpl : Array Value := (.int .i64 0 :: .slice none 0 0 :: .slice none 0 0 :: List.replicate 48 (.int .i8 0)).toArray
theorem zpl_eq : zpl = plA 0 none 0 0 none 0 0 fun _ => 0 := by
  unfold zpl plA plL o48
  simp [List.map_const']
theorem wpList_load_pl {ops : Array Oper} {rest : List Oper} {op : Oper} {a : Act} {w : World} {Q : Exit → Act → World → Prop} (hgd : op.guard = none) (x : Operand) (ho : op.op = .load 76 x)
    (b p : Nat) (hx : a.eval x = .pointer (some ⟨b, p, none⟩)) (s : Int) (A : Option Addr) (n c : Nat) (B : Option Addr) (m d : Nat) (o : Nat → Int) (hc : w.rangeAt b p (plL s A n c B m d o))
    (h : wpList Tryz.prog ops Q rest (a.put op.dst (.agg (plA s A n c B m d o))) w) : wpList Tryz.prog ops Q (op :: rest) a w :=
  wpList_load_mid hgd 76 x ho b p hx (plL s A n c B m d o) _ hc Tryz.underlying76 rfl (by rw [plInfo (s := s) (A := A) (n := n) (c := c) (B := B) (m := m) (d := d) (o := o), plA_size, plL_length]) h
theorem wpList_want_pl {ops : Array Oper} {rest : List Oper} {op : Oper} {a : Act} {w : World} {Q : Exit → Act → World → Prop} (hw : Region.wanted op (yielded ops a.tmps) = true) (x : Operand) (ho : op.op = .load 76 x)
    (b p : Nat) (hx : a.eval x = .pointer (some ⟨b, p, none⟩)) (s : Int) (A : Option Addr) (n c : Nat) (B : Option Addr) (m d : Nat) (o : Nat → Int) (hc : w.rangeAt b p (plL s A n c B m d o))
    (h : wpList Tryz.prog ops Q rest (a.put op.dst (.agg (plA s A n c B m d o))) w) : wpList Tryz.prog ops Q (op :: rest) a w :=
  BigFrame.wpList_want hw fun _ hK => wp_load_mid 76 x ho b p hx (plL s A n c B m d o) _ hc Tryz.underlying76 rfl (by rw [plInfo (s := s) (A := A) (n := n) (c := c) (B := B) (m := m) (d := d) (o := o), plA_size, plL_length]) (hK _ _ h)
theorem indexO (o : Nat → Int) (k : Nat) (hk : k < 48) (w : World) : (Instr.index 30 (.agg (oa o)) (.int .i64 k)).run Tryz.prog w = .ok (.int .i8 (o k)) w := by
  have h := o48_get o k hk
  simp [Instr.index, asIntOf, run_underlying Tryz.underlying30, go_sem, hk, oa, h]
theorem Bk.plRange (h : Bk w g t (plA s A n c B m d o)) : w.rangeAt g 0 (plL s A n c B m d o) := h.range 0 _ (fun j v hv => by rw [Nat.zero_add]; simpa [plA] using hv)
theorem zeroPln (w : World) : (zeroValue 76).run Tryz.prog w = .ok (.agg zpl) w := by kernel_rfl
end

/-- the panic by which a programme is given up -/
def given (x : Int) : List PanicEntry := [{ v := .iface 131 (.agg #[.int .i64 x]), recovered := false }]
/-- it holds, or a panic -/
def Needs (b : Bool) (w : World) (e : Ending) (w' : World) : Prop := (e = if b then .returned (.tuple #[]) else .panicked (given 1)) ∧ Below w.heap.size w w'

def SaysI' (x : Int) (w : World) (e : Ending) (w' : World) : Prop := e = .returned (.int .i64 x) ∧ Below w.heap.size w w'
theorem need_yes (x : Int) (w : World) : Calls Tryz.prog 63 #[.bool true, .int .i64 x] w fun e w' => e = .returned (.tuple #[]) ∧ w = w' := by
  go_enter Tryz.func63, Tryz.ntmps63
  go_wp2
  first | go_end0 | refine bodyPost_ret (results_none rfl _ _ _) rfl ?_
  exact ⟨rfl, rfl⟩
theorem need_no (x : Int) (w : World) : Calls Tryz.prog 63 #[.bool false, .int .i64 x] w fun e w' => e = .panicked (given x) ∧ w = w' := by
  go_enter Tryz.func63, Tryz.ntmps63
  go_wp2
  exact ⟨rfl, rfl, rfl⟩
theorem secEnd_any (F S : Int) (hF : -32768 ≤ F ∧ F ≤ 32767) (hS : -32768 ≤ S ∧ S ≤ 32767) (w : World) :
    Calls Tryz.prog 70 #[.agg #[.int .i16 F, .int .i16 S]] w (SaysI' (F + S) w) := by
  have hw1 : IntKind.i64.wrap (F + S) = F + S := IntWalk.i64_in _ (by omega)
  go_enter Tryz.func70, Tryz.ntmps70
  go_wp2
  go_ret
  exact ⟨rfl, (Below.refl _ _).alloc (Nat.le_refl _) _⟩
theorem hasSection_any (s : Int) (A : Option Addr) (n c : Nat) (B : Option Addr) (m d : Nat) (o : Nat → Int) (x : Int) (hm : m ≤ 1048576) (w : World) :
    Calls Tryz.prog 34 #[.agg (plA s A n c B m d o), .int .i64 x] w (Says (inB x 0 ((m : Int) - 1)) w) := by
  have c0 := (Bk.new w 76 (plA s A n c B m d o) rfl).plSecs
  go_enter Tryz.func34, Tryz.ntmps34
  go_wp2_with (go_at_call 66; refine (within_any _ _ _ _).mono ?_; rintro e w' ⟨rfl, rfl⟩)
  go_ret
  exact ⟨rfl, (Below.refl _ _).alloc (Nat.le_refl _) _⟩

/-- what the program asks of a section -/
def secI (m : List (Int × Int)) (k : Nat) : Bool := decide (secE m k ≤ secF m k) && decide (1 ≤ secS m k)
def secsI (s : Int) (m : List (Int × Int)) : Bool := decide (m.length ≤ 12) && (List.range m.length).all (secI m) && decide (secE m m.length ≤ s)

set_option maxRecDepth 20000 in
set_option maxHeartbeats 2000000 in
theorem needSections_any (s : Int) (A : Option Addr) (n c : Nat) (B : Option Addr) (d : Nat) (m : List (Int × Int)) (o : Nat → Int) (w : World) (hB : SecA w B m) (hm : m.length ≤ 1048576) (hswf : SWF m) :
    Calls Tryz.prog 64 #[.agg (plA s A n c B m.length d o)] w (Needs (secsI s m) w) := by
  have hb0 : Below w.heap.size w (w.alloc (.cells (plA s A n c B m.length d o) 76)) := (Below.refl _ _).alloc (Nat.le_refl _) _
  obtain ⟨X, hX⟩ : ∃ X, X = w.alloc (.cells (plA s A n c B m.length d o) 76) := ⟨_, rfl⟩
  rw [← hX] at hb0
  have P0 : Bk X w.heap.size 76 (plA s A n c B m.length d o) := by rw [hX]; exact Bk.new _ _ _ rfl
  go_enter Tryz.func64, Tryz.ntmps64
  go_upto_region 1 with fail
  rw [← hX]
  clear hX
  have c0 := P0.plSecs
  by_cases h12 : 12 < m.length
  · have q0 : decide ((m.length : Int) ≤ 12) = false := by simp; omega
    have HX := hide (show decide (m.length ≤ 12) = false by simp; omega)
    clear h12
    go_wp2_with (go_at_call 63; refine (need_no 1 _).mono ?_; rintro e w' ⟨rfl, rfl⟩)
    exact ⟨rfl, by simp [secsI, HX.out], hb0⟩
  have q0 : decide ((m.length : Int) ≤ 12) = true := by simp; omega
  have h12' : m.length ≤ 12 := by omega
  clear h12
  go_wp2_with (go_at_call 63; refine (need_yes 1 _).mono ?_; rintro e w' ⟨rfl, rfl⟩)
  go_loopw [2, 15] (fun x i wr => ∃ k : Nat, k ≤ m.length ∧ i = .int .i64 k ∧ x = .int .i64 (secE m k) ∧ SG (secI m) k ∧ Below X.heap.size X wr)
    (fun _ i _ => m.length - (intOf i).toNat)
  case atStart => exact ⟨0, Nat.zero_le _, rfl, rfl, SG_zero _, Below.refl _ _⟩
  case round =>
    obtain ⟨k, hk, rfl, rfl, hG, hb⟩ := hrel
    have HG := hide hG
    clear hG q0 c0
    have B2 := (hB.below hb0).below hb
    have bx := step_below hb hb0
    have P2 := P0.keep hb
    obtain ⟨u1, u2⟩ := secE_bound hswf k hk
    by_cases hlt : k < m.length
    · obtain ⟨b', p, rfl, hbb, d1, d2⟩ := B2 k hlt
      obtain ⟨⟨p1, p2⟩, r1, r2⟩ := hswf k hlt
      have by1 := hb.alloc hb.size (.cells #[.int .i16 (secF m k), .int .i16 (secS m k)] 68)
      have by2 := bx.alloc bx.size (.cells #[.int .i16 (secF m k), .int .i16 (secS m k)] 68)
      by_cases h1 : secE m k ≤ secF m k
      · have q1 : decide (secE m k ≤ secF m k) = true := decide_eq_true h1
        by_cases h2 : 1 ≤ secS m k
        · have q2 : decide (1 ≤ secS m k) = true := decide_eq_true h2
          have HN := hide (show secI m k = true by simp [secI, h1, h2])
          clear h1 h2
          go_wp2_with (first | (go_at_call 63; refine (need_yes 1 _).mono ?_; rintro e w' ⟨rfl, rfl⟩) | (go_at_call 70; refine (secEnd_any _ _ ⟨p1, p2⟩ ⟨r1, r2⟩ _).mono ?_; rintro e w3 ⟨rfl, hb3⟩))
          go_roundw
          case rel => exact ⟨k + 1, hlt, by go_num, rfl, SG_succ HG.out HN.out, by1.trans (hb3.mono by1.size)⟩
          case measure => simp [intOf]; omega
        · have q2 : decide (1 ≤ secS m k) = false := decide_eq_false h2
          have HN := hide (show secI m k = false by simp [secI, h2])
          clear h1 h2
          go_wp2_with (first | (go_at_call 63; refine (need_no 1 _).mono ?_; rintro e w' ⟨rfl, rfl⟩))
          exact ⟨rfl, by rw [show secsI s m = false by simp [secsI, show (List.range m.length).all (secI m) = false from SG_no hlt HN.out]]; rfl, by2⟩
      · have q1 : decide (secE m k ≤ secF m k) = false := decide_eq_false h1
        have HN := hide (show secI m k = false by simp [secI, h1])
        clear h1
        go_wp2_with (first | (go_at_call 63; refine (need_no 1 _).mono ?_; rintro e w' ⟨rfl, rfl⟩))
        exact ⟨rfl, by rw [show secsI s m = false by simp [secsI, show (List.range m.length).all (secI m) = false from SG_no hlt HN.out]]; rfl, by2⟩
    · obtain rfl : k = m.length := by omega
      have c1 := P2.plSteps
      by_cases h3 : secE m m.length ≤ s
      · have q3 : decide (secE m m.length ≤ s) = true := decide_eq_true h3
        have HN := hide (show secsI s m = true by simp [secsI, show (List.range m.length).all (secI m) = true from SG_all HG.out, h3, h12'])
        clear h3
        go_wp2_with (first | (go_at_call 63; refine (need_yes 1 _).mono ?_; rintro e w' ⟨rfl, rfl⟩))
        first | go_end0 | refine bodyPost_ret (results_none rfl _ _ _) rfl ?_
        exact ⟨by rw [HN.out]; rfl, bx⟩
      · have q3 : decide (secE m m.length ≤ s) = false := decide_eq_false h3
        have HN := hide (show secsI s m = false by simp [secsI, h3])
        clear h3
        go_wp2_with (first | (go_at_call 63; refine (need_no 1 _).mono ?_; rintro e w' ⟨rfl, rfl⟩))
        exact ⟨rfl, by rw [HN.out]; rfl, bx⟩

set_option maxRecDepth 20000 in
set_option maxHeartbeats 2000000 in
theorem needOrder_any (s : Int) (A : Option Addr) (n c : Nat) (B : Option Addr) (m d : Nat) (o : Nat → Int) (w : World) (hm : m ≤ 1048576) (howf : OWF o) :
    Calls Tryz.prog 65 #[.agg (plA s A n c B m d o)] w (Needs (ordB m o) w) := by
  have hb0 : Below w.heap.size w (w.alloc (.cells (plA s A n c B m d o) 76)) := (Below.refl _ _).alloc (Nat.le_refl _) _
  obtain ⟨X, hX⟩ : ∃ X, X = w.alloc (.cells (plA s A n c B m d o) 76) := ⟨_, rfl⟩
  rw [← hX] at hb0
  have P0 : Bk X w.heap.size 76 (plA s A n c B m d o) := by rw [hX]; exact Bk.new _ _ _ rfl
  go_enter Tryz.func65, Tryz.ntmps65
  go_upto_region 1 with fail
  rw [← hX]
  clear hX
  have HR := hide P0.plOrd
  have HI := hide (fun k hk => indexO o k hk)
  have HBX := hide hb0
  go_wp2_with (first | (with_reducible refine wpList_load_oa rfl (.tmp 5) rfl w.heap.size 3 rfl o HR.out ?_))
  clear hb0
  have hbX : Below w.heap.size w X := HBX.out
  go_loopw [7] (fun i wr => ∃ k : Nat, k ≤ 48 ∧ i = .int .i64 k ∧ SG (ordG m o) k ∧ Below X.heap.size X wr)
    (fun i _ => 48 - (intOf i).toNat)
  case atStart => exact ⟨0, Nat.zero_le _, rfl, SG_zero _, Below.refl _ _⟩
  case round =>
    obtain ⟨k, hk, rfl, hG, hb⟩ := hrel
    have HG := hide hG
    clear hG
    have bx := step_below hb hbX
    have P2 := P0.keep hb
    by_cases hlt : k < 48
    · have hx := HI.out k hlt
      obtain ⟨v1, v2⟩ := howf k hlt
      have HR2 := hide P2.plRange
      cases hq : ordG m o k
      · have hne : ¬ o k = -1 ∧ inB (o k) 0 ((m : Int) - 1) = false := by
          simp [ordG, inB] at hq ⊢
          omega
        have q1 : (o k == -1) = false := by simpa using hne.1
        have HN := hide hq
        have K1 : ∀ W, Calls Tryz.prog 34 #[.agg (plA s A n c B m d o), .int .i64 (o k)] W (Says false W) := fun W => by rw [← hne.2]; exact hasSection_any s A n c B m d o _ hm W
        clear hq hne
        go_wp2_with (first | (with_reducible refine wpList_want_pl rfl (.tmp 1) rfl w.heap.size 0 rfl _ _ _ _ _ _ _ _ HR2.out ?_) | (go_at_call 34; refine (K1 _).mono ?_; rintro e w3 ⟨rfl, hb3⟩) | (go_at_call 63; refine (need_no 1 _).mono ?_; rintro e w' ⟨rfl, rfl⟩))
        exact ⟨rfl, by rw [show ordB m o = false from SG_no hlt HN.out]; rfl, step_below hb3 bx⟩
      · by_cases h1 : o k = -1
        · have q1 : (o k == -1) = true := by simpa using h1
          have HN := hide hq
          clear hq h1
          go_wp2_with (first | (go_at_call 63; refine (need_yes 1 _).mono ?_; rintro e w' ⟨rfl, rfl⟩))
          go_roundw
          case rel => exact ⟨k + 1, hlt, by go_num, SG_succ HG.out HN.out, hb⟩
          case measure => simp [intOf]; omega
        · have q1 : (o k == -1) = false := by simpa using h1
          have hin : inB (o k) 0 ((m : Int) - 1) = true := by
            simp [ordG, inB] at hq ⊢
            omega
          have K1 : ∀ W, Calls Tryz.prog 34 #[.agg (plA s A n c B m d o), .int .i64 (o k)] W (Says true W) := fun W => by rw [← hin]; exact hasSection_any s A n c B m d o _ hm W
          have HN := hide hq
          clear hq h1 hin
          go_wp2_with (first | (with_reducible refine wpList_want_pl rfl (.tmp 1) rfl w.heap.size 0 rfl _ _ _ _ _ _ _ _ HR2.out ?_) | (go_at_call 34; refine (K1 _).mono ?_; rintro e w3 ⟨rfl, hb3⟩) | (go_at_call 63; refine (need_yes 1 _).mono ?_; rintro e w' ⟨rfl, rfl⟩))
          go_roundw
          case rel => exact ⟨k + 1, hlt, by go_num, SG_succ HG.out HN.out, step_below hb3 hb⟩
          case measure => simp [intOf]; omega
    · obtain rfl : k = 48 := by omega
      go_wp2
      first | go_end0 | refine bodyPost_ret (results_none rfl _ _ _) rfl ?_
      exact ⟨by rw [show ordB m o = true from SG_all HG.out]; rfl, bx⟩
end Go.Proofs.YtehmkablandefaaGreatDoor
namespace Go.Proofs.YtehmkablandefaaGreatDoor
open Go.RowKit

theorem refuses_yes (x : Int) (w : World) : (Instr.typeAssert (.iface 131 (.agg #[.int .i64 x])) 20 127 true).run Tryz.prog w = .ok (.tuple #[.iface 131 (.agg #[.int .i64 x]), .bool true]) w := by kernel_rfl
theorem refuses_no (w : World) : (Instr.typeAssert .nilIface 20 127 true).run Tryz.prog w = .ok (.tuple #[.nilIface, .bool false]) w := by kernel_rfl
theorem code_any (x : Int) (w : World) : Calls Tryz.prog 142 #[.agg #[.int .i64 x]] w fun e w' => e = .returned (.int .i64 x) ∧ w' = w.alloc (.cells #[.int .i64 x] 131) := by
  go_enter Tryz.func142, Tryz.ntmps142
  go_wp2
  go_ret
  exact ⟨rfl, rfl⟩
theorem code_met (x : Int) (w : World) : (callMethod (.iface 131 (.agg #[.int .i64 x])) "loop.example/g01311/impl.code" #[]).run Tryz.prog w = .ok (.enter 142 #[.agg #[.int .i64 x]]) w := by kernel_rfl
theorem wpList_invoke {P : Program} {ops : Array Oper} {rest : List Oper} {o : Oper} {a : Act} {w : World} {Q : Exit → Act → World → Prop} (hg : o.guard = none) (r : Operand) (name : String) (ho : o.op = .call { callee := .invoke r name, args := #[], argTypes := #[] }) (v : Value) (hr : a.eval r = v)
    (f : FuncId) (fa : Array Value) (hm : (callMethod v name #[]).run P w = .ok (.enter f fa) w)
    (h : Calls P f fa w fun e w' => ∃ u, e = .returned u ∧ wpList P ops Q rest (a.put o.dst u) w') : wpList P ops Q (o :: rest) a w :=
  wpList_plain hg fun K hK => by
    have he : (execOp a.eval o).run P w = .ok (.enter f fa) w := by
      unfold execOp
      have e1 : (#[v] ++ Array.map a.eval #[])[0]? = some v := by simp
      have e2 : (#[v] ++ Array.map a.eval #[]).extract 1 (#[v] ++ Array.map a.eval #[]).size = #[] := by simp
      simp only [ho, resolve, invoke, hr, Sem.run_bind, Sem.run_pure, Result.andThen_ok, e1, e2]
      exact hm
    unfold Oper.wp
    rw [he, Oper.upon_enter]
    exact h.mono fun e w' ⟨u, e1, e2⟩ => by subst e1; exact hK _ _ e2
theorem catch_given (b : Nat) (y x : Int) (older : List PanicEntry) (w : World) (hc : w.cell? ⟨b, 0, none⟩ = some (.int .i64 y)) (hz : w.frozen? ⟨b, 0, none⟩ = false) :
    CallsD Tryz.prog 78 #[.pointer (some ⟨b, 0, none⟩)] (.panicking ({ v := .iface 131 (.agg #[.int .i64 x]), recovered := false } :: older)) w fun e u' w' =>
      e = .returned (.tuple #[]) ∧ u' = .panicking ({ v := .iface 131 (.agg #[.int .i64 x]), recovered := true } :: older) ∧ w' = (w.alloc (.cells #[.int .i64 x] 131)).setCell ⟨b, 0, none⟩ (.int .i64 x) := by
  have hl := World.block_lt_of_cell? w _ hc
  have hbw : Below w.heap.size w (w.alloc (.cells #[.int .i64 x] 131)) := (Below.refl _ _).alloc (Nat.le_refl _) _
  have hc' := (hbw.cell hl).trans hc
  have hz' := (hbw.frozen hl).trans hz
  refine callsD_of_wpS Tryz.func78 rfl fun c₀ cs hu => ?_
  apply wpS_seq
  apply wpS_region
  simp [wpOpsS, go_sem, recoverD, hu, Tryz.ntmps78, Exit.thenS, refuses_yes]
  refine wpS_seq (wpS_of_wp ?_)
  go_wp2
  simp only [Exit.thenS]
  refine wpS_cond (t := true) (by simp [Act.eval, Array.replicate]) ?_
  simp only [if_true]
  refine wpS_of_wp ?_
  simp only [Array.replicate, List.replicate, List.setIfInBounds_toArray, List.set_cons_succ, List.set_cons_zero, List.append_toArray, List.cons_append, List.nil_append]
  go_wp2_with (with_reducible refine wpList_invoke rfl (.tmp 9) "loop.example/g01311/impl.code" rfl (.iface 131 (.agg #[.int .i64 x])) rfl 142 #[.agg #[.int .i64 x]] (code_met x _) ?_; refine (code_any x _).mono ?_; rintro e w' ⟨rfl, rfl⟩; refine ⟨_, rfl, ?_⟩)
  cases c₀
  simp_all [bodyPostS, results, Tryz.results78]
theorem catch_none (p : Addr) (w : World) :
    CallsD Tryz.prog 78 #[.pointer (some p)] .returning w fun e u' w' => e = .returned (.tuple #[]) ∧ u' = .returning ∧ w' = w := by
  refine callsD_of_wpS Tryz.func78 rfl fun c₀ cs hu => ?_
  apply wpS_seq
  apply wpS_region
  simp [wpOpsS, go_sem, recoverD, hu, Tryz.ntmps78, Exit.thenS, refuses_no]
  refine wpS_seq (wpS_of_wp ?_)
  go_wp2
  simp only [Exit.thenS]
  refine wpS_cond (t := false) (by simp [Act.eval, Array.replicate]) ?_
  simp only [Bool.false_eq_true, if_false]
  refine wpS_of_wp (wp_skip ?_)
  cases c₀
  simp_all [bodyPostS, results, Tryz.results78]
end Go.Proofs.YtehmkablandefaaGreatDoor
