import Derived.Test.YtklkomgpaamcpaaCnSpec
namespace Go.Proofs.Ytklkomgpaamcpaa
open Go.RowKit Go.Maps

def isN (l : List (Int × Int)) (n : Nat) (a p : Int) : Bool := (List.range n).any fun j => decide (nAt l j = a) && decide (nPi l j = p)
theorem isN_succ (l : List (Int × Int)) (n : Nat) (a p : Int) : isN l (n + 1) a p = (isN l n a p || (decide (nAt l n = a) && decide (nPi l n = p))) := by simp [isN, List.range_succ]
theorem isN_in (l m : List (Int × Int)) (n k : Nat) : isN l n (nAt m k) (nPi m k) = inC l m n k := by
  unfold isN inC hit
  refine congrArg (List.range n).any (funext fun j => ?_)
  rw [Int.add_zero, Bool.and_comm]
def InM (D : DataW Unit) (l : List (Int × Int)) (n : Nat) : Prop :=
  ∀ a p kl, keyOf Try.prog 49 (.agg #[.int .i16 a, .int .i8 p]) = some kl → D.atKey kl (.lit (.bool false)) = .lit (.bool (isN l n a p))
theorem inM_start (l : List (Int × Int)) : InM (.map []) l 0 := fun _ _ _ _ => rfl
theorem inM_step {D : DataW Unit} {l : List (Int × Int)} {n : Nat} {k0 : Lit} (hD : Maps.IsMap D) (h : InM D l n)
    (hk : keyOf Try.prog 49 (.agg #[.int .i16 (nAt l n), .int .i8 (nPi l n)]) = some k0) : InM (D.put k0 (.lit (.bool true))) l (n + 1) := by
  intro a p kl hkl
  rw [isN_succ]
  by_cases e : kl = k0
  · subst e
    have e1 := lawN.inj hk hkl
    simp only [Value.agg.injEq, Array.mk.injEq, List.cons.injEq, Value.int.injEq, true_and, and_true] at e1
    rw [Maps.atKey_put_same hD (lawN.key hkl)]
    simp [e1.1, e1.2]
  · rw [Maps.atKey_put_other e, h a p kl hkl]
    have e2 : (decide (nAt l n = a) && decide (nPi l n = p)) = false := by
      cases hh : (decide (nAt l n = a) && decide (nPi l n = p))
      · rfl
      · simp only [Bool.and_eq_true, decide_eq_true_eq] at hh
        rw [hh.1, hh.2, hkl] at hk
        exact absurd (Option.some.inj hk) e
    rw [e2, Bool.or_false]
theorem zeroB (w : World) : (zeroValue 4).run Try.prog w = .ok (.bool false) w := by kernel_rfl
theorem wf16 {p : Int} (h : 0 ≤ p ∧ p ≤ 199) : (Lit.int .i16 p).wf = true := WalkArith.wf_i16 (by omega)
theorem wf8c {p : Int} (h : 0 ≤ p ∧ p ≤ 47) : (Lit.int .i8 p).wf = true := WalkArith.wf_i8 (by omega)
theorem note_key (a p : Int) (ha : 0 ≤ a ∧ a ≤ 199) (hp : 0 ≤ p ∧ p ≤ 47) : ∃ kl, keyOf Try.prog 49 (.agg #[.int .i16 a, .int .i8 p]) = some kl := by
  obtain ⟨s, hs⟩ := key_some a p (wf16 ha) (wf8c hp)
  exact ⟨_, hs⟩

set_option maxHeartbeats 4000000 in
set_option maxRecDepth 100000 in
theorem implCommon_yes (A B : Option Addr) (c d : Nat) (l m : List (Int × Int)) (w : World) (hA : NA w A l) (hB : NA w B m) (hn : l.length ≤ 1048576) (hn' : m.length ≤ 1048576) (hwf : WF l) (hwg : WF m) (hok : okB l = true) (hok' : okB m = true) :
    Calls Try.prog 33 #[.slice A l.length c, .slice B m.length d] w (Pair (.int .i64 (cpC l m 0 l.length)) (.int .i64 0) w) := by
  have HIN := hide (inRange_of l hok)
  have HIM := hide (inRange_of m hok')
  have HEQ := hide (numC_eq (m := m) (asc_of l hok) l.length (Nat.le_refl _))
  have HOK := hide hok
  have HOM := hide hok'
  have hl := len_of l hok
  have hm := len_of m hok'
  have hmm := @run_makeMap Try.prog
  clear hok hok'
  go_enter Try.func33, Try.ntmps33
  go_wp2_with fail
  refine (implValid_any A c l _ hA hn hwf).mono ?_
  rintro e w1 ⟨rfl, hb⟩
  rw [HOK.out]
  go_wp2_with fail
  refine (implValid_any B d m _ (hB.below hb) hn' hwg).mono ?_
  rintro e w2 ⟨rfl, hb2⟩
  rw [HOM.out]
  have hbw := hb.trans (hb2.mono hb.size)
  go_wp2_with fail
  clear hmm
  have HS := hide hbw.size
  go_loopw [23] (fun i wr => ∃ (n : Nat) (D : DataW Unit), n ≤ l.length ∧ i = .int .i64 n ∧ InM D l n ∧ wr.ownsMap Try.prog 49 (plainElem Try.prog 4) w2.heap.size n D ∧ Below w.heap.size w wr)
    (fun i _ => l.length - (intOf i).toNat)
  case atStart => exact ⟨0, .map [], Nat.zero_le _, rfl, inM_start l, World.ownsMap_made _ _ _ _, hbw.alloc hbw.size _⟩
  case round =>
    obtain ⟨n, D, hnl, rfl, hIn, hown, hbr⟩ := hrel
    have HI := hide hIn
    clear hIn
    by_cases hlt : n < l.length
    · obtain ⟨b, o, rfl, hbb, c1, c2⟩ := hA n hlt
      have d1 := (hbr.cell (p := ⟨b, o + n * 2, none⟩) hbb).trans c1
      have d2 := (hbr.cell (p := ⟨b, o + n * 2 + 1, none⟩) hbb).trans c2
      obtain ⟨⟨e1, e2⟩, e3, e4⟩ : (0 ≤ nAt l n ∧ nAt l n ≤ 199) ∧ 0 ≤ nPi l n ∧ nPi l n ≤ 47 := by simpa [noteB] using HIN.out n hlt
      obtain ⟨kl, hkey⟩ := note_key _ _ ⟨e1, e2⟩ ⟨e3, e4⟩
      have HK := hide hkey
      have hval := plainElem_bool (H := Unit) Try.underlying4 true
      have hbx := hbr.alloc hbr.size (.cells #[.int .i16 (nAt l n), .int .i8 (nPi l n)] 49)
      have hox := hown.alloc (.cells #[.int .i16 (nAt l n), .int .i8 (nPi l n)] 49)
      clear c1 c2 hA hB
      go_wp2_with (at_mapUpdate; refine wpList_mapUpdate_own _ rfl _ _ _ 65 rfl 49 4 lawN Try.underlying65 _ w2.heap.size n D rfl hox (by unfold maxLen; omega) _ _ _ rfl rfl hkey _ [] hval ?_; intro w3 hown2 hgrow2; have hb3 := hbx.grown hgrow2 hbx.size (fun j hj => by cases hj; exact HS.out))
      go_roundw
      case rel => exact ⟨n + 1, _, hlt, by go_num, inM_step hown.isMap HI.out HK.out, hown2, hb3⟩
      case measure => simp [intOf]; omega
    · obtain rfl : n = l.length := by omega
      go_wp2
      go_loopw [9, 32] (fun x i wq => ∃ (k : Nat) (xx : Int), k ≤ m.length ∧ i = .int .i64 k ∧ x = .int .i64 xx ∧ Hid (xx = (numC l m l.length k : Int)) ∧ wq.ownsMap Try.prog 49 (plainElem Try.prog 4) w2.heap.size l.length D ∧ Below w.heap.size w wq)
        (fun _ i _ => m.length - (intOf i).toNat)
      case atStart => exact ⟨0, 0, Nat.zero_le _, rfl, rfl, hide rfl, hown, hbr⟩
      case round =>
        obtain ⟨k, x, hkm, rfl, rfl, HX, hown2, hbq⟩ := hrel
        by_cases hlt2 : k < m.length
        · obtain ⟨b, o, rfl, hbb, c1, c2⟩ := hB k hlt2
          have d1 := (hbq.cell (p := ⟨b, o + k * 2, none⟩) hbb).trans c1
          have d2 := (hbq.cell (p := ⟨b, o + k * 2 + 1, none⟩) hbb).trans c2
          obtain ⟨⟨e1, e2⟩, e3, e4⟩ : (0 ≤ nAt m k ∧ nAt m k ≤ 199) ∧ 0 ≤ nPi m k ∧ nPi m k ≤ 47 := by simpa [noteB] using HIM.out k hlt2
          obtain ⟨kl, hkey⟩ := note_key _ _ ⟨e1, e2⟩ ⟨e3, e4⟩
          have hbx := hbq.alloc hbq.size (.cells #[.int .i16 (nAt m k), .int .i8 (nPi m k)] 49)
          have hox := hown2.alloc (.cells #[.int .i16 (nAt m k), .int .i8 (nPi m k)] 49)
          obtain ⟨v, ps, hlook, hv⟩ := hox.lookup lawN Try.underlying65 (zeroB _) (plainElem_bool (H := Unit) Try.underlying4 false) hkey
          rw [HI.out _ _ _ hkey, isN_in] at hv
          obtain ⟨x0, rfl, hx0⟩ := bool_inv hv
          obtain ⟨h1, _⟩ : inC l m l.length k = x0 ∧ ps = [] := by simpa using hx0
          have HR := hide (numC_succ l m l.length k)
          have H1 := hide h1
          have hcb := numC_le l m l.length k
          have hx : 0 ≤ x ∧ x ≤ 120 := by have := HX.out; omega
          obtain ⟨hxa, hxb⟩ := hx
          clear c1 c2 hA hB hv hx0 h1 hcb hkey
          have hs2 : IntKind.i64.wrap (x + 1) = x + 1 := IntWalk.i64_in _ (by omega)
          cases x0
          · go_wp2
            go_roundw
            case rel => exact ⟨k + 1, _, hlt2, by go_num, rfl, hide (by rw [HR.out, HX.out, H1.out]; simp), hox, hbx⟩
            case measure => simp [intOf]; omega
          · go_wp2
            go_roundw
            case rel => exact ⟨k + 1, _, hlt2, by go_num, rfl, hide (by rw [HR.out, HX.out, H1.out]; simp), hox, hbx⟩
            case measure => simp [intOf]; omega
        · obtain rfl : k = m.length := by omega
          go_wp2
          go_ret2
          exact ⟨by rw [← HEQ.out, ← HX.out]; rfl, hbq⟩
end Go.Proofs.Ytklkomgpaamcpaa
