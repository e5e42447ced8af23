import Derived.Test.YtcdjfflmgjpobaaDoorA2s
namespace Go.Proofs.YtcdjfflmgjpobaaDoor
open Go.RowKit Go.Shelf
attribute [local go_sem] Oper.semAt_some

theorem pinsL_len (d : Nat → Int) : (pinsL d).length ≤ 4000 := by
  have := pinsT_len d 96
  unfold pinsL
  omega
/-- a fresh pair of numbers, and any code -/
def OwnAZ (w : World) (n : Nat) (zs : List Int) (cc : Int) (e : Ending) (w' : World) : Prop := ∃ (A : Option Addr) (c : Nat), e = .returned (.tuple #[.slice A n c, .int .i64 cc]) ∧ w'.ownsRow w.heap.size 89 2 (.slice A n c) n (icells zs) ∧ Below w.heap.size w w'

set_option maxHeartbeats 4000000 in
set_option maxRecDepth 100000 in
theorem places_any (d : Nat → Int) (w : World) (hd : DWF d) (hT : TabW w) :
    Calls Tryd.prog 56 #[.agg (da d)] w (OwnA w (pinsL d)) := by
  obtain ⟨i0, hi, hz0, hz1, hz2⟩ := info_parts info89
  have HR0 := hide (show Dr ((w.alloc (.cells (da d) 36)).alloc (.cells #[.slice none 0 0] 47)) w.heap.size 36 d from heap_old' (heap_new' _ _ _ rfl)).range
  refine (callsIn_wide (n := 5)).1 ?_
  refine callsIn_of_wp_marks Tryd.func56 rfl trivial ?_ rfl
  simp only [Tryd.ntmps56, List.size_toArray, List.length_cons, List.length_nil, Nat.reduceAdd, Nat.reduceSub, Array.replicate_succ, Array.replicate_zero, List.push_toArray, List.append_toArray, List.nil_append, List.cons_append]
  refine wpIn_wide.2 ?_
  go_wp2_with (first | (with_reducible refine wpList_load_da rfl 36 (.tmp 1) rfl w.heap.size 0 rfl d _ HR0.out Tryd.underlying36 rfl (dInfo d) ?_) | (go_at_call 51; refine (pins_call _ _).mono ?_; rintro e w5 ⟨rfl, rfl⟩))
  obtain ⟨W0, hW0⟩ : ∃ W0, (((w.alloc (.cells (da d) 36)).alloc (.cells #[.slice none 0 0] 47)).alloc (.cells (da d) 36)) = W0 := ⟨_, rfl⟩
  have hs0 : W0.heap.size = w.heap.size + 1 + 1 + 1 := by rw [← hW0]; simp
  have hbW : Below w.heap.size w W0 := by rw [← hW0]; exact (((Below.refl _ _).alloc (Nat.le_refl _) _).alloc (by simp) _).alloc (by simp; omega) _
  have Bx0 : Boxed W0 (w.heap.size + 1) 47 (.slice none 0 0) := by rw [← hW0]; exact heap_old' (heap_new' _ _ _ (by simp))
  have DW : Dr W0 (w.heap.size + 1 + 1) 36 d := by rw [← hW0]; exact heap_new' _ _ _ (by simp)
  have hTW : TabW W0 := hT.keep hbW
  have hTl := hT.lt
  simp only [hW0]
  clear hW0 HR0
  refine (wpIn_wide (n := 5)).1 ?_
  refine wpIn_rangeFunc_ownF rfl (by omega) (gf := 78) (lb := #[.pointer (some ⟨w.heap.size + 1 + 1, 0, none⟩)]) rfl trivial (enters_of Tryd.func78 (by kernel_rfl) rfl)
    (pins_stops (5 - 1) (by omega) (w.heap.size + 1 + 1) d hd W0 DW hTW)
    (fun h1 h2 h => h2 (h1 h)) (fun W r o o' _ ho hc _ h => TabW.kb r o' ho hc h) (Below.refl _ _) (fun _ => rfl)
    (fun pre W => ((∃ v, Boxed W (w.heap.size + 1) 47 v ∧ W.ownsRow w.heap.size 89 2 v pre.length (acells (pre.map fun x : PinOf d => x.1)) ∧ True) ∧ TabW W) ∧ Below w.heap.size w W)
    (fun _ _ _ => False)
    (OwnFrom.and (OwnFrom.and ((holdsRow_own w.heap.size (w.heap.size + 1) 47 89 2 (fun pre : List (PinOf d) => pre.length) (fun pre : List (PinOf d) => acells (pre.map fun x : PinOf d => x.1)) (fun _ _ => True)).from _) (fun _ _ _ _ hs hg hr j hj => cell_kept (hs j hj) hg (fun r e => (hr r e).2))) (ownFrom_below (Nat.le_refl _) (by omega)))
    (fun _ _ _ _ _ hs _ _ => hs)
    ⟨⟨⟨_, Bx0, ⟨rfl, Or.inl ⟨rfl, rfl⟩⟩, trivial⟩, hTW⟩, hbW⟩ ?a1 ?assign ?body ?done ?stop
  case assign =>
    intro l x W K hK
    gi_wp2
    exact hK
  case body =>
    rintro r pre x W ⟨⟨⟨v, hv, hown, -⟩, hTb⟩, hBel⟩ hlen
    obtain ⟨A1, c1, rfl⟩ := own_shape hown
    have f1 := hv.cell
    have hnew := cell_two_new W (.int .i64 (x.1.1 : Int)) (.int .i64 (x.1.2 : Int)) 89
    have own7 := hown.alloc (.cells #[.int .i64 (x.1.1 : Int), .int .i64 (x.1.2 : Int)] 89)
    have hsz := hBel.size
    gi_wp2_with (gi_at_builtin; refine wpListIn_append_own _ rfl _ _ 47 rfl w.heap.size 89 i0 (.agg #[.int .i64 0, .int .i64 0]) 2 16 Tryd.underlying47 hi hz0 hz1 hz2 rfl (by decide) _ _ _ rfl own7 ⟨W.heap.size, 0, none⟩ 1 1 [.int .i64 (x.1.1 : Int), .int .i64 (x.1.2 : Int)] rfl rfl hnew (fun x hx => by simp at hx; rcases hx with rfl | rfl <;> rfl) (by unfold maxLen; omega) (by omega) (by simp; omega) ?_; intro v' w8 hown8 hgrow8 hnil8; obtain ⟨g8, c8, rfl⟩ := ownsRow_succ hown8; obtain ⟨u1, u2, u3, u4, u5⟩ := hv.appended (by decide) hown (by omega) (by omega) hown8 hgrow8; have f2 := u1.cell; have f3 := u1.frozen)
    refine ⟨u4, fun h j hj => (u5.cell (p := ⟨_, j, none⟩) hTl).trans (h j hj), ⟨⟨_, u2, ?_, trivial⟩, fun j hj => (u5.cell (p := ⟨_, j, none⟩) hTl).trans (hTb j hj)⟩, hBel.trans u5⟩
    simp only [List.map_append, List.map_cons, List.map_nil, List.length_append, List.length_cons, List.length_nil, acells_append]
    exact u3
  case done =>
    rintro D ys W hD hS ⟨⟨⟨v, hv, hown, -⟩, _⟩, hBel⟩ hK
    have hl2 : ys.length = (pinsL d).length := by rw [← hS, List.length_map]
    rw [hS, hl2] at hown
    obtain ⟨A1, c1, rfl⟩ := own_shape hown
    have f1 := hv.cell
    go_wp2_with fail
    refine ⟨by simp, .inl ⟨_, _, rfl, run_takeDeferred hK, ?_⟩⟩
    refine ⟨_, results_tmp (fn := Tryd.f56) rfl _ _ _, ?_⟩
    exact ⟨A1, c1, rfl, ownsRow_putObj hown _ hK rfl, hBel.trans (belowK_b (w := w) (Nat.le_refl _) W D _ _ (by omega) hK rfl rfl)⟩
  case stop =>
    rintro D c pre W _ _ h _
    exact h.elim
end Go.Proofs.YtcdjfflmgjpobaaDoor
