import Derived.Test.YtlbjakmfalhliaaBel
import Derived.Maps.AppendAt
namespace Go.Proofs.Ytlbjakmfalhliaa
open Go.RowKit
theorem info2 : (Try.prog.info? 2).map (fun i => (i.zero, i.size, i.bytes)) = some (some (.int .i64 0), 1, 8) := by kernel_rfl

/-- the tracks ahead of k whose hammer has a pitch -/
def trk (l : List (Int × Int)) (p : Int) (k : Nat) : List Nat := (List.range k).filter fun j => decide (hPi l j = p)
def tcells (ts : List Nat) : List Value := ts.map fun (j : Nat) => .int .i64 (j : Int)
theorem trk_len (l : List (Int × Int)) (p : Int) (k : Nat) : (trk l p k).length ≤ k := by simpa [trk] using List.length_filter_le (fun j => decide (hPi l j = p)) (List.range k)
theorem trk_yes {l : List (Int × Int)} {p : Int} {k : Nat} (h : hPi l k = p) : trk l p (k + 1) = trk l p k ++ [k] := by simp [trk, List.range_succ, List.filter_append, h]
theorem trk_no {l : List (Int × Int)} {p : Int} {k : Nat} (h : ¬ hPi l k = p) : trk l p (k + 1) = trk l p k := by simp [trk, List.range_succ, List.filter_append, h]
def hamN (l : List (Int × Int)) (p : Int) : Nat := (trk l p l.length).length

/-- a slice of the call's own comes back -/
def OwnL (w : World) (xs : List Nat) (e : Ending) (w' : World) : Prop := ∃ (A : Option Addr) (c : Nat), e = .returned (.slice A xs.length c) ∧ w'.ownsRow w.heap.size 2 1 (.slice A xs.length c) xs.length (tcells xs) ∧ Below w.heap.size w w'
theorem own_shape {w : World} {base n : Nat} {e : TypeId} {size : Nat} {v : Value} {xs : List Value} (h : w.ownsRow base e size v n xs) : ∃ A c, v = .slice A n c := by
  rcases h.2 with ⟨h1, h2⟩ | ⟨g, cap, cur, h1, _⟩
  · exact ⟨none, 0, by rw [h1, h2]⟩
  · exact ⟨_, _, h1⟩
set_option maxHeartbeats 1000000 in
set_option maxRecDepth 20000 in
theorem tracksFor_any (s p : Int) (A : Option Addr) (c : Nat) (l : List (Int × Int)) (w : World) (hA : HA w A l) (hn : l.length ≤ 24) (hg : HG s l l.length) :
    Calls Try.prog 57 #[.slice A l.length c, .int .i64 p] w (OwnL w (trk l p l.length)) := by
  obtain ⟨i0, hi, hz0, hz1, hz2⟩ := info_parts info2
  have HGG := hide hg
  clear hg
  go_enter Try.func57, Try.ntmps57
  go_wp2_with fail
  go_loopw [5, 10] (fun v i wr => ∃ k : Nat, k ≤ l.length ∧ i = .int .i64 k ∧ wr.ownsRow w.heap.size 2 1 v (trk l p k).length (tcells (trk l p k)) ∧ Below w.heap.size w wr)
    (fun _ i _ => l.length - (intOf i).toNat)
  case atStart => exact ⟨0, Nat.zero_le _, rfl, ⟨rfl, Or.inl ⟨rfl, rfl⟩⟩, Below.refl _ _⟩
  case round =>
    obtain ⟨k, hk, rfl, hown, hb⟩ := hrel
    obtain ⟨A', c', rfl⟩ := own_shape hown
    by_cases hlt : k < l.length
    · obtain ⟨b, o, rfl, hbb, c1, c2⟩ := hA k hlt
      have d1 := (hb.cell (p := ⟨b, o + k * 2, none⟩) hbb).trans c1
      have d2 := (hb.cell (p := ⟨b, o + k * 2 + 1, none⟩) hbb).trans c2
      obtain ⟨⟨e3, e4⟩, _⟩ := HGG.out.at hlt
      have hb2 := hb.alloc hb.size (.cells #[.int .i8 (hPi l k), .int .i8 (hRe l k)] 80)
      have own2 := hown.alloc (.cells #[.int .i8 (hPi l k), .int .i8 (hRe l k)] 80)
      have hlen := trk_len l p k
      clear c1 c2 hA
      by_cases hp : hPi l k = p
      · have HT := hide (trk_yes hp)
        have hq : (hPi l k == p) = true := by simp [hp]
        clear hp
        have hnew : ∀ j u, ([.int .i64 (k : Int)] : List Value)[j]? = some u → ((wr.alloc (.cells #[.int .i8 (hPi l k), .int .i8 (hRe l k)] 80)).alloc (.cells #[.int .i64 (k : Int)] 2)).cell? ((⟨wr.heap.size + 1, 0, none⟩ : Addr).add j) = some u := by
          have h := cell_one_new (wr.alloc (.cells #[.int .i8 (hPi l k), .int .i8 (hRe l k)] 80)) (.int .i64 (k : Int)) 2
          rw [World.size_alloc] at h
          exact h
        have own3 := own2.alloc (.cells #[.int .i64 (k : Int)] 2)
        have hsz := hb.size
        go_wp2_with (at_builtin; refine wpList_append_own _ rfl _ _ 58 rfl w.heap.size 2 i0 (.int .i64 0) 1 8 Try.underlying58 hi hz0 hz1 hz2 rfl (by decide) _ _ _ rfl own3 ⟨wr.heap.size + 1, 0, none⟩ 1 1 [.int .i64 (k : Int)] rfl rfl hnew (fun x hx => by simp at hx; subst hx; rfl) (by unfold maxLen; omega) (by omega) (by simp; omega) ?_; intro v' w3 hown3 hgrow3 hnil3)
        have hb3 := (hb2.alloc hb2.size (.cells #[.int .i64 (k : Int)] 2)).grown hgrow3 (by simp; omega) (fun j hj => (hown.lt j hj).1)
        go_roundw
        case rel => exact ⟨k + 1, hlt, by go_num, by rw [HT.out, List.length_append, tcells, List.map_append]; exact hown3, hb3⟩
        case measure => simp [intOf]; omega
      · have HT := hide (trk_no hp)
        have hq : (hPi l k == p) = false := by simp [hp]
        clear hp
        go_wp2
        go_roundw
        case rel => exact ⟨k + 1, hlt, by go_num, by rw [HT.out]; exact own2, hb2⟩
        case measure => simp [intOf]; omega
    · obtain rfl : k = l.length := by omega
      go_wp2
      go_ret
      exact ⟨A', c', rfl, hown, hb⟩

/-- ErrInvalid, then ErrRange -/
def cod3 (a b : Bool) : Int := if a then (if b then 0 else 2) else 1
set_option maxHeartbeats 1000000 in
theorem specHammersFor_any (s : Int) (A : Option Addr) (c : Nat) (l : List (Int × Int)) (p : Int) (w : World) (hA : HA w A l) (hn : l.length ≤ 1048576) (hwf : HWF l) (hs : -32768 ≤ s ∧ s ≤ 32767) :
    Calls Try.prog 25 #[.agg #[.int .i16 s, .slice A l.length c], .int .i64 p] w (Pair (.int .i64 (onlyI (frB s l && inB p 0 47) (hamN l p))) (.int .i64 (cod3 (frB s l) (inB p 0 47))) w) := by
  have hb0 : Below w.heap.size w (w.alloc (.cells #[.int .i16 s, .slice A l.length c] 30)) := (Below.refl _ _).alloc (Nat.le_refl _) _
  have hF : FP (w.alloc (.cells #[.int .i16 s, .slice A l.length c] 30)) w.heap.size s A l.length c := ⟨by simp [go_sem], by simp [go_sem]⟩
  go_enter Try.func25, Try.ntmps25
  go_wp2_with fail
  refine (l02Frame_any _ s A c l _ hF (hA.below hb0) hn hwf hs).mono ?_
  rintro e w1 ⟨rfl, hb1⟩
  have b1 := step_below hb1 hb0
  have F1 := hF.keep hb1
  cases hf : frB s l
  · go_wp2
    go_ret2
    exact ⟨by rw [hf]; rfl, b1⟩
  have HF := hide hf
  have hfa := frB_all hf
  have hl24 := hfa.2.1.2
  have HGG := hide hfa.2.2
  clear hf hfa
  cases hi : inB p 0 47
  · have K1 : ∀ W, Calls Try.prog 55 #[.int .i64 p, .int .i64 0, .int .i64 47] W fun e w' => e = .returned (.bool false) ∧ W = w' := fun W => by rw [← hi]; exact l00In_any _ _ _ W
    have HI := hide hi
    clear hi
    go_wp2_with (go_at_call 55; with_reducible refine (K1 _).mono ?_; rintro e w' ⟨rfl, rfl⟩)
    go_ret2
    exact ⟨by rw [HF.out, HI.out]; rfl, b1⟩
  · have K1 : ∀ W, Calls Try.prog 55 #[.int .i64 p, .int .i64 0, .int .i64 47] W fun e w' => e = .returned (.bool true) ∧ W = w' := fun W => by rw [← hi]; exact l00In_any _ _ _ W
    have HI := hide hi
    have c1 := F1.1
    have c2 := F1.2
    clear hi
    go_wp2_with (go_at_call 55; with_reducible refine (K1 _).mono ?_; rintro e w' ⟨rfl, rfl⟩)
    go_loop [6, 7] (fun s i => ∃ k : Nat, k ≤ l.length ∧ i = .int .i64 k ∧ s = .int .i64 ((trk l p k).length : Nat))
      (fun _ i => l.length - (intOf i).toNat)
    case atStart => exact ⟨0, Nat.zero_le _, rfl, rfl⟩
    case round =>
      obtain ⟨k, hk, rfl, rfl⟩ := hrel
      have hlen := trk_len l p k
      by_cases hlt : k < l.length
      · obtain ⟨b, o, rfl, hbb, d1, d2⟩ := (hA.below b1) k hlt
        obtain ⟨⟨e3, e4⟩, _⟩ := HGG.out.at hlt
        by_cases hp : hPi l k = p
        · have HT := hide (trk_yes hp)
          have hq : (hPi l k == p) = true := by simp [hp]
          have hw1 : IntKind.i64.wrap (((trk l p k).length : Int) + 1) = ((trk l p k).length : Int) + 1 := IntWalk.i64_in _ (by omega)
          clear hp
          go_wp2
          go_round
          case rel => exact ⟨k + 1, hlt, by go_num, by rw [HT.out, List.length_append]; rfl⟩
          case measure => simp [intOf]; omega
        · have HT := hide (trk_no hp)
          have hq : (hPi l k == p) = false := by simp [hp]
          clear hp
          go_wp2
          go_round
          case rel => exact ⟨k + 1, hlt, by go_num, by rw [HT.out]⟩
          case measure => simp [intOf]; omega
      · obtain rfl : k = l.length := by omega
        go_wp2
        go_ret2
        exact ⟨by rw [HF.out, HI.out]; rfl, b1⟩

theorem implHammersFor_any (s : Int) (A : Option Addr) (c : Nat) (l : List (Int × Int)) (p : Int) (w : World) (hA : HA w A l) (hn : l.length ≤ 1048576) (hwf : HWF l) (hs : -32768 ≤ s ∧ s ≤ 32767) :
    Calls Try.prog 26 #[.agg #[.int .i16 s, .slice A l.length c], .int .i64 p] w (Pair (.int .i64 (onlyI (frB s l && inB p 0 47) (hamN l p))) (.int .i64 (cod3 (frB s l) (inB p 0 47))) w) := by
  have hb0 : Below w.heap.size w (w.alloc (.cells #[.int .i16 s, .slice A l.length c] 30)) := (Below.refl _ _).alloc (Nat.le_refl _) _
  go_enter Try.func26, Try.ntmps26
  go_wp2_with fail
  refine (machineFor_any s A c l _ true _ (hA.below hb0) hn hwf hs (fun _ W _ => fits_nil _ s A l.length c rfl W)).mono ?_
  rintro e w2 ⟨rfl, hb2⟩
  have b2 := step_below hb2 hb0
  have hbx := b2.alloc b2.size (.cells #[.int .i64 s, .slice A l.length c] 71)
  rw [Bool.and_true]
  cases hf : frB s l
  · go_wp2
    go_ret2
    exact ⟨by rw [hf]; rfl, hbx⟩
  cases hi : inB p 0 47
  · go_wp2_with (go_at_call 56; refine (within_any _ _ _ _).mono ?_; rintro e w' ⟨rfl, rfl⟩; rw [hi])
    go_ret2
    exact ⟨by rw [hf, hi]; rfl, hbx⟩
  · have hl24 := (frB_all hf).2.1.2
    have hlen := trk_len l p l.length
    go_wp2_with (first | (go_at_call 56; refine (within_any _ _ _ _).mono ?_; rintro e w' ⟨rfl, rfl⟩; rw [hi]) | (go_at_call 57; refine (tracksFor_any s p A c l _ (hA.below hbx) hl24 (frB_all hf).2.2).mono ?_; rintro e w3 ⟨A3, c3, rfl, own3, hb3⟩))
    go_ret2
    exact ⟨by rw [hf, hi]; rfl, step_below hb3 hbx⟩
end Go.Proofs.Ytlbjakmfalhliaa
