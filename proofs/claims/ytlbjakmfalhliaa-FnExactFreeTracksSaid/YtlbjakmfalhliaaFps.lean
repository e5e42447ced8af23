import Derived.Test.YtlbjakmfalhliaaFree
namespace Go.Proofs.Ytlbjakmfalhliaa
open Go.RowKit

/-- the free places of a track, ahead of k -/
def frl (S : Nat) (d : Nat → Int) (r t : Nat) (k : Nat) : List Nat := (List.range k).filter fun i => freeB S d r i t
theorem frl_len (S : Nat) (d : Nat → Int) (r t k : Nat) : (frl S d r t k).length ≤ k := by simpa [frl] using List.length_filter_le (fun i => freeB S d r i t) (List.range k)
theorem frl_yes {S : Nat} {d : Nat → Int} {r t k : Nat} (h : freeB S d r k t = true) : frl S d r t (k + 1) = frl S d r t k ++ [k] := by simp [frl, List.range_succ, List.filter_append, h]
theorem frl_no {S : Nat} {d : Nat → Int} {r t k : Nat} (h : freeB S d r k t = false) : frl S d r t (k + 1) = frl S d r t k := by simp [frl, List.range_succ, List.filter_append, h]
/-- a slice of the call's own and a code come back -/
def OwnP (w : World) (xs : List Nat) (cc : Int) (e : Ending) (w' : World) : Prop := ∃ (A : Option Addr) (c : Nat), e = .returned (.tuple #[.slice A xs.length c, .int .i64 cc]) ∧ w'.ownsRow w.heap.size 2 1 (.slice A xs.length c) xs.length (tcells xs) ∧ Below w.heap.size w w'
def fpC (s : Int) (l : List (Int × Int)) (d : Nat → Int) (x : Int) : Int := cod3 (askB s l d) (inB x 0 ((l.length : Int) - 1))
def fpL (s : Int) (l : List (Int × Int)) (d : Nat → Int) (x : Int) : List Nat := if fpC s l d x = 0 then frl s.toNat d (hRe l x.toNat).toNat x.toNat s.toNat else []
theorem own_base {w : World} {base base' n : Nat} {e : TypeId} {size : Nat} {v : Value} {xs : List Value} (h : w.ownsRow base e size v n xs) (hb : base' ≤ base) : w.ownsRow base' e size v n xs := by
  refine ⟨h.1, ?_⟩
  rcases h.2 with h' | ⟨g, cap, cur, h1, h2, r⟩
  · exact Or.inl h'
  · exact Or.inr ⟨g, cap, cur, h1, Nat.le_trans hb h2, r⟩
theorem own_empty {w : World} {base : Nat} (h : base ≤ w.heap.size) : (w.alloc (.cells #[] 2)).ownsRow base 2 1 (.slice (some ⟨w.heap.size, 0, none⟩) 0 0) 0 [] :=
  ⟨rfl, Or.inr ⟨w.heap.size, 0, #[], rfl, h, heap_alloc_new _ _, Nat.le_refl _, Nat.zero_le _, rfl, rfl⟩⟩
theorem pl_step {s x : Int} {l : List (Int × Int)} {d : Nat → Int} (h : askB s l d = true) : plB s l.length 0 x = inB x 0 ((l.length : Int) - 1) := by
  have hl := (ask_all h).1
  have h2 : inB 0 0 (s - 1) = true := by simp [inB]; omega
  rw [plB, h2, Bool.true_and]

set_option maxRecDepth 20000 in
set_option maxHeartbeats 2000000 in
theorem specFreePlaces_any (s : Int) (A : Option Addr) (c : Nat) (l : List (Int × Int)) (d : Nat → Int) (x : Int) (w : World) (hA : HA w A l) (hn : l.length ≤ 1048576) (hwf : HWF l) (hs : -32768 ≤ s ∧ s ≤ 32767) (hd : DWF d) :
    Calls Try.prog 40 #[.agg #[.int .i16 s, .slice A l.length c], .agg (da d), .int .i64 x] w (OwnP w (fpL s l d x) (fpC s l d x)) := by
  obtain ⟨i0, hi, hz0, hz1, hz2⟩ := info_parts info2
  have hb0 : Below w.heap.size w ((w.alloc (.cells #[.int .i16 s, .slice A l.length c] 30)).alloc (.cells (da d) 37)) := ((Below.refl _ _).alloc (Nat.le_refl _) _).alloc (by simp) _
  have hF : FP ((w.alloc (.cells #[.int .i16 s, .slice A l.length c] 30)).alloc (.cells (da d) 37)) w.heap.size s A l.length c := ⟨by simp [go_sem], by simp [go_sem]⟩
  have hD : Dr ((w.alloc (.cells #[.int .i16 s, .slice A l.length c] 30)).alloc (.cells (da d) 37)) (w.heap.size + 1) 37 d := heap_new' _ _ _ (by simp)
  go_enter Try.func40, Try.ntmps40
  go_wp2_with fail
  refine (l02Place_any _ _ s A c l d 0 x _ hF hD (hA.below hb0) hn hwf hs hd).mono ?_
  rintro e w1 ⟨rfl, hb1⟩
  have b1 := step_below hb1 hb0
  have F1 := hF.keep hb1
  have D1 := hD.keep hb1
  cases ha : askB s l d
  · simp only [cod3]
    have hcc : fpC s l d x = 1 := by simp [fpC, cod3, ha]
    have HX := hide hcc
    have HY := hide (show fpL s l d x = [] by simp [fpL, hcc])
    clear hcc ha
    go_wp2
    go_ret2
    exact ⟨some ⟨w1.heap.size, 0, none⟩, 0, by rw [HX.out, HY.out]; rfl, by rw [HY.out]; exact own_empty b1.size, b1.alloc b1.size _⟩
  rw [pl_step ha]
  cases hp : inB x 0 ((l.length : Int) - 1)
  · simp only [cod3]
    have hcc : fpC s l d x = 2 := by simp [fpC, cod3, ha, hp]
    have HX := hide hcc
    have HY := hide (show fpL s l d x = [] by simp [fpL, hcc])
    clear hcc ha hp
    go_wp2
    go_ret2
    exact ⟨some ⟨w1.heap.size, 0, none⟩, 0, by rw [HX.out, HY.out]; rfl, by rw [HY.out]; exact own_empty b1.size, b1.alloc b1.size _⟩
  have hfa := ask_all ha
  obtain ⟨S, hSs⟩ : ∃ S : Nat, s = (S : Int) := ⟨s.toNat, by omega⟩
  have hxb : 0 ≤ x ∧ x ≤ (l.length : Int) - 1 := by simpa [inB] using hp
  obtain ⟨t, ht⟩ : ∃ t : Nat, x = (t : Int) := ⟨x.toNat, by omega⟩
  have hS2 : 2 ≤ S ∧ S ≤ 96 := by omega
  have htl : t < l.length := by omega
  have hl24 := hfa.2.1.2
  have HGG := hide hfa.2.2.1
  have hSn : s.toNat = S := by omega
  have htn : x.toNat = t := by omega
  simp only [cod3]
  have hcc : fpC s l d x = 0 := by simp [fpC, cod3, ha, hp]
  have HX := hide hcc
  have HY := hide (show fpL s l d x = frl S d (hRe l t).toNat t S by simp [fpL, hcc, hSn, htn])
  clear hcc ha hp hfa hxb hSn htn
  subst hSs ht
  have hal : Below w1.heap.size w1 (w1.alloc (.cells #[] 2)) := (Below.refl _ _).alloc (Nat.le_refl _) _
  have hA1 := hA.below b1
  obtain ⟨r, hr⟩ : ∃ r, (hRe l t).toNat = r := ⟨_, rfl⟩
  go_wp2_with fail
  go_loopw [9, 10] (fun v i wr => ∃ k : Nat, k ≤ S ∧ i = .int .i64 k ∧ wr.ownsRow w1.heap.size 2 1 v (frl S d r t k).length (tcells (frl S d r t k)) ∧ Below w1.heap.size w1 wr)
    (fun _ i _ => S - (intOf i).toNat)
  case atStart => exact ⟨0, Nat.zero_le _, rfl, own_empty (Nat.le_refl _), hal⟩
  case round =>
    obtain ⟨k, hk, rfl, hown, hb⟩ := hrel
    obtain ⟨A', c', rfl⟩ := own_shape hown
    have F3 := F1.keep hb
    have D3 := D1.keep hb
    have hA3 := hA1.below hb
    have e1 := F3.1
    by_cases hlt : k < S
    · have hlen := frl_len S d r t k
      have KF : ∀ v, freeB S d r k t = v → Calls Try.prog 70 #[.pointer (some ⟨w.heap.size, 0, none⟩), .pointer (some ⟨w.heap.size + 1, 0, none⟩), .int .i64 k, .int .i64 t] wr fun e w' => e = .returned (.bool v) ∧ wr = w' := fun v hv => by
        rw [← hv, ← hr]; exact l02Free_any _ _ S A c l d k t wr F3 D3 hA3 hS2 hl24 HGG.out hlt htl hd
      cases hf : freeB S d r k t
      · have HT := hide (frl_no hf)
        have KF' := KF false hf
        clear hf KF
        go_wp2_with (go_at_call 70; with_reducible refine KF'.mono ?_; rintro e w' ⟨rfl, rfl⟩)
        go_roundw
        case rel => exact ⟨k + 1, hlt, by go_num, by rw [HT.out]; exact hown, hb⟩
        case measure => simp [intOf]; omega
      · have HT := hide (frl_yes hf)
        have KF' := KF true hf
        clear hf KF
        have hnew : ∀ j u, ([.int .i64 (k : Int)] : List Value)[j]? = some u → (wr.alloc (.cells #[.int .i64 (k : Int)] 2)).cell? ((⟨wr.heap.size, 0, none⟩ : Addr).add j) = some u := cell_one_new wr (.int .i64 (k : Int)) 2
        have own3 := hown.alloc (.cells #[.int .i64 (k : Int)] 2)
        go_wp2_with (first | (go_at_call 70; with_reducible refine KF'.mono ?_; rintro e w' ⟨rfl, rfl⟩) | (at_builtin; refine wpList_append_own _ rfl _ _ 58 rfl w1.heap.size 2 i0 (.int .i64 0) 1 8 Try.underlying58 hi hz0 hz1 hz2 rfl (by decide) _ _ _ rfl own3 ⟨wr.heap.size, 0, none⟩ 1 1 [.int .i64 (k : Int)] rfl rfl hnew (fun x hx => by simp at hx; subst hx; rfl) (by unfold maxLen; omega) (by omega) (by simp; have := hb.size; omega) ?_; intro v' w3 hown3 hgrow3 hnil3))
        have hb3 := (hb.alloc hb.size (.cells #[.int .i64 (k : Int)] 2)).grown hgrow3 (by simp; have := hb.size; omega) (fun j hj => (hown.lt j hj).1)
        go_roundw
        case rel => exact ⟨k + 1, hlt, by go_num, by rw [HT.out, List.length_append, tcells, List.map_append]; exact hown3, hb3⟩
        case measure => simp [intOf]; omega
    · obtain rfl : k = S := by omega
      go_wp2
      go_ret2
      exact ⟨A', c', by rw [HX.out, HY.out, hr]; rfl, by rw [HY.out, hr]; exact own_base hown b1.size, step_below hb b1⟩
end Go.Proofs.Ytlbjakmfalhliaa
