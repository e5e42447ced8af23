import Derived.Test.YtlbjakmfalhliaaFpi
namespace Go.Proofs.Ytlbjakmfalhliaa
open Go.RowKit

/-- the free tracks at a step with a pitch, ahead of k -/
def ftB (S : Nat) (d : Nat → Int) (l : List (Int × Int)) (p : Int) (x k : Nat) : Bool := decide (hPi l k = p) && freeB S d (hRe l k).toNat x k
def ftl (S : Nat) (d : Nat → Int) (l : List (Int × Int)) (p : Int) (x : Nat) (k : Nat) : List Nat := (List.range k).filter fun i => ftB S d l p x i
theorem ftl_len (S : Nat) (d : Nat → Int) (l : List (Int × Int)) (p : Int) (x k : Nat) : (ftl S d l p x k).length ≤ k := by simpa [ftl] using List.length_filter_le (fun i => ftB S d l p x i) (List.range k)
theorem ftl_yes {S : Nat} {d : Nat → Int} {l : List (Int × Int)} {p : Int} {x k : Nat} (h : ftB S d l p x k = true) : ftl S d l p x (k + 1) = ftl S d l p x k ++ [k] := by simp [ftl, List.range_succ, List.filter_append, h]
theorem ftl_no {S : Nat} {d : Nat → Int} {l : List (Int × Int)} {p : Int} {x k : Nat} (h : ftB S d l p x k = false) : ftl S d l p x (k + 1) = ftl S d l p x k := by simp [ftl, List.range_succ, List.filter_append, h]
def ftC (s : Int) (l : List (Int × Int)) (d : Nat → Int) (x p : Int) : Int := cod3 (askB s l d) (inB x 0 (s - 1) && inB p 0 47)
def ftL (s : Int) (l : List (Int × Int)) (d : Nat → Int) (x p : Int) : List Nat := if ftC s l d x p = 0 then ftl s.toNat d l p x.toNat l.length else []
theorem pl_track {s x : Int} {l : List (Int × Int)} {d : Nat → Int} (h : askB s l d = true) : plB s l.length x 0 = inB x 0 (s - 1) := by
  have hl := (ask_all h).2.1
  have h2 : inB 0 0 ((l.length : Int) - 1) = true := by simp [inB]; omega
  rw [plB, h2, Bool.and_true]

set_option maxRecDepth 20000 in
set_option maxHeartbeats 2000000 in
theorem specFreeTracks_any (s : Int) (A : Option Addr) (c : Nat) (l : List (Int × Int)) (d : Nat → Int) (x p : Int) (w : World) (hA : HA w A l) (hn : l.length ≤ 1048576) (hwf : HWF l) (hs : -32768 ≤ s ∧ s ≤ 32767) (hd : DWF d) :
    Calls Try.prog 46 #[.agg #[.int .i16 s, .slice A l.length c], .agg (da d), .int .i64 x, .int .i64 p] w (OwnP w (ftL s l d x p) (ftC s l d x p)) := by
  obtain ⟨i0, hi, hz0, hz1, hz2⟩ := info_parts info2
  have hb0 : Below w.heap.size w ((w.alloc (.cells #[.int .i16 s, .slice A l.length c] 30)).alloc (.cells (da d) 37)) := ((Below.refl _ _).alloc (Nat.le_refl _) _).alloc (by simp) _
  have hF : FP ((w.alloc (.cells #[.int .i16 s, .slice A l.length c] 30)).alloc (.cells (da d) 37)) w.heap.size s A l.length c := ⟨by simp [go_sem], by simp [go_sem]⟩
  have hD : Dr ((w.alloc (.cells #[.int .i16 s, .slice A l.length c] 30)).alloc (.cells (da d) 37)) (w.heap.size + 1) 37 d := heap_new' _ _ _ (by simp)
  go_enter Try.func46, Try.ntmps46
  go_wp2_with fail
  refine (l02Place_any _ _ s A c l d x 0 _ hF hD (hA.below hb0) hn hwf hs hd).mono ?_
  rintro e w1 ⟨rfl, hb1⟩
  have b1 := step_below hb1 hb0
  have F1 := hF.keep hb1
  have D1 := hD.keep hb1
  cases ha : askB s l d
  · simp only [cod3]
    have hcc : ftC s l d x p = 1 := by simp [ftC, cod3, ha]
    have HX := hide hcc
    have HY := hide (show ftL s l d x p = [] by simp [ftL, hcc])
    clear hcc ha
    go_wp2
    go_ret2
    exact ⟨some ⟨w1.heap.size, 0, none⟩, 0, by rw [HX.out, HY.out]; rfl, by rw [HY.out]; exact own_empty b1.size, b1.alloc b1.size _⟩
  rw [pl_track ha]
  cases hp : inB x 0 (s - 1)
  · simp only [cod3]
    have hcc : ftC s l d x p = 2 := by simp [ftC, cod3, ha, hp]
    have HX := hide hcc
    have HY := hide (show ftL s l d x p = [] by simp [ftL, hcc])
    clear hcc ha hp
    go_wp2
    go_ret2
    exact ⟨some ⟨w1.heap.size, 0, none⟩, 0, by rw [HX.out, HY.out]; rfl, by rw [HY.out]; exact own_empty b1.size, b1.alloc b1.size _⟩
  cases hq : inB p 0 47
  · have K1 : ∀ W, Calls Try.prog 55 #[.int .i64 p, .int .i64 0, .int .i64 47] W fun e w' => e = .returned (.bool false) ∧ W = w' := fun W => by rw [← hq]; exact l00In_any _ _ _ W
    simp only [cod3]
    have hcc : ftC s l d x p = 2 := by simp [ftC, cod3, ha, hp, hq]
    have HX := hide hcc
    have HY := hide (show ftL s l d x p = [] by simp [ftL, hcc])
    clear hcc ha hp hq
    go_wp2_with (go_at_call 55; with_reducible refine (K1 _).mono ?_; rintro e w' ⟨rfl, rfl⟩)
    go_ret2
    exact ⟨some ⟨w1.heap.size, 0, none⟩, 0, by rw [HX.out, HY.out]; rfl, by rw [HY.out]; exact own_empty b1.size, b1.alloc b1.size _⟩
  have K1 : ∀ W, Calls Try.prog 55 #[.int .i64 p, .int .i64 0, .int .i64 47] W fun e w' => e = .returned (.bool true) ∧ W = w' := fun W => by rw [← hq]; exact l00In_any _ _ _ W
  have hfa := ask_all ha
  obtain ⟨S, hSs⟩ : ∃ S : Nat, s = (S : Int) := ⟨s.toNat, by omega⟩
  have hxb : 0 ≤ x ∧ x ≤ s - 1 := by simpa [inB] using hp
  obtain ⟨t, ht⟩ : ∃ t : Nat, x = (t : Int) := ⟨x.toNat, by omega⟩
  have hS2 : 2 ≤ S ∧ S ≤ 96 := by omega
  have htl : t < S := by omega
  have hl24 := hfa.2.1.2
  have HGG := hide hfa.2.2.1
  have hSn : s.toNat = S := by omega
  have htn : x.toNat = t := by omega
  simp only [cod3]
  have hcc : ftC s l d x p = 0 := by simp [ftC, cod3, ha, hp, hq]
  have HX := hide hcc
  have HY := hide (show ftL s l d x p = ftl S d l p t l.length by simp [ftL, hcc, hSn, htn])
  clear hcc ha hp hq hfa hxb hSn htn
  subst hSs ht
  have hal : Below w1.heap.size w1 (w1.alloc (.cells #[] 2)) := (Below.refl _ _).alloc (Nat.le_refl _) _
  have hA1 := hA.below b1
  go_wp2_with (go_at_call 55; with_reducible refine (K1 _).mono ?_; rintro e w' ⟨rfl, rfl⟩)
  go_loopw [11, 12] (fun v i wr => ∃ k : Nat, k ≤ l.length ∧ i = .int .i64 k ∧ wr.ownsRow w1.heap.size 2 1 v (ftl S d l p t k).length (tcells (ftl S d l p t k)) ∧ Below w1.heap.size w1 wr)
    (fun _ i _ => l.length - (intOf i).toNat)
  case atStart => exact ⟨0, Nat.zero_le _, rfl, own_empty (Nat.le_refl _), hal⟩
  case round =>
    obtain ⟨k, hk, rfl, hown, hb⟩ := hrel
    obtain ⟨A', c', rfl⟩ := own_shape hown
    have F3 := F1.keep hb
    have D3 := D1.keep hb
    have hA3 := hA1.below hb
    have e2 := F3.2
    by_cases hlt : k < l.length
    · have hlen := ftl_len S d l p t k
      have KF : ∀ v, freeB S d (hRe l k).toNat t k = v → Calls Try.prog 70 #[.pointer (some ⟨w.heap.size, 0, none⟩), .pointer (some ⟨w.heap.size + 1, 0, none⟩), .int .i64 t, .int .i64 k] wr fun e w' => e = .returned (.bool v) ∧ wr = w' := fun v hv => by
        rw [← hv]; exact l02Free_any _ _ S A c l d t k wr F3 D3 hA3 hS2 hl24 HGG.out htl hlt hd
      obtain ⟨b, o, rfl, hbb, d1, d2⟩ := hA3 k hlt
      obtain ⟨⟨e3, e4⟩, _⟩ := HGG.out.at hlt
      by_cases hpp : hPi l k = p
      · have hq : (hPi l k == p) = true := by simp [hpp]
        cases hf : freeB S d (hRe l k).toNat t k
        · have HT := hide (ftl_no (p := p) (l := l) (by simp [ftB, hpp, hf] : ftB S d l p t k = false))
          have KF' := KF false hf
          clear hf KF hpp
          go_wp2_with (go_at_call 70; with_reducible refine KF'.mono ?_; rintro e w' ⟨rfl, rfl⟩)
          go_roundw
          case rel => exact ⟨k + 1, hlt, by go_num, by rw [HT.out]; exact hown, hb⟩
          case measure => simp [intOf]; omega
        · have HT := hide (ftl_yes (p := p) (l := l) (by simp [ftB, hpp, hf] : ftB S d l p t k = true))
          have KF' := KF true hf
          clear hf KF hpp
          have hnew : ∀ j u, ([.int .i64 (k : Int)] : List Value)[j]? = some u → (wr.alloc (.cells #[.int .i64 (k : Int)] 2)).cell? ((⟨wr.heap.size, 0, none⟩ : Addr).add j) = some u := cell_one_new wr (.int .i64 (k : Int)) 2
          have own3 := hown.alloc (.cells #[.int .i64 (k : Int)] 2)
          go_wp2_with (first | (go_at_call 70; with_reducible refine KF'.mono ?_; rintro e w' ⟨rfl, rfl⟩) | (at_builtin; refine wpList_append_own _ rfl _ _ 58 rfl w1.heap.size 2 i0 (.int .i64 0) 1 8 Try.underlying58 hi hz0 hz1 hz2 rfl (by decide) _ _ _ rfl own3 ⟨wr.heap.size, 0, none⟩ 1 1 [.int .i64 (k : Int)] rfl rfl hnew (fun x hx => by simp at hx; subst hx; rfl) (by unfold maxLen; omega) (by omega) (by simp; have := hb.size; omega) ?_; intro v' w3 hown3 hgrow3 hnil3))
          have hb3 := (hb.alloc hb.size (.cells #[.int .i64 (k : Int)] 2)).grown hgrow3 (by simp; have := hb.size; omega) (fun j hj => (hown.lt j hj).1)
          go_roundw
          case rel => exact ⟨k + 1, hlt, by go_num, by rw [HT.out, List.length_append, tcells, List.map_append]; exact hown3, hb3⟩
          case measure => simp [intOf]; omega
      · have hq : (hPi l k == p) = false := by simp [hpp]
        have HT := hide (ftl_no (d := d) (S := S) (x := t) (by simp [ftB, hpp] : ftB S d l p t k = false))
        clear KF hpp
        go_wp2
        go_roundw
        case rel => exact ⟨k + 1, hlt, by go_num, by rw [HT.out]; exact hown, hb⟩
        case measure => simp [intOf]; omega
    · obtain rfl : k = l.length := by omega
      go_wp2
      go_ret2
      exact ⟨A', c', by rw [HX.out, HY.out]; rfl, by rw [HY.out]; exact own_base hown b1.size, step_below hb b1⟩
end Go.Proofs.Ytlbjakmfalhliaa
