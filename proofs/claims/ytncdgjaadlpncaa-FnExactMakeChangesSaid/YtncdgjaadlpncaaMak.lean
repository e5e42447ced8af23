import Derived.Test.YtncdgjaadlpncaaCgs
import Derived.Test.YtncdgjaadlpncaaBit
import Derived.Test.YtncdgjaadlpncaaWps
import Derived.Test.YtncdgjaadlpncaaLst
import Derived.StillTailTactics
namespace Go.Proofs.Ytncdgjaadlpncaa
open Go.RowKit

theorem tog_wf' {d : Nat → Int} (hd : DWF d) (k t : Nat) : DWF (togD d k t) := by
  intro i hi
  unfold togD
  split
  · exact bounds_u32 (wf_bits .xor .u32 _ _)
  · exact hd i hi
theorem drB_tog {s : Int} {n : Nat} {d : Nat → Int} (hd : DWF d) (h : drB s n d = true) {k t : Nat} (hk : (k : Int) < s) (hs : s ≤ 96) (ht : t < n) (hn : n ≤ 24) : drB s n (togD d k t) = true := by
  have h' := drB_all h
  refine drB_yes fun i hi => ?_
  by_cases e : i = k
  · subst e
    have h1 := h' i hi
    have h2 := hd i hi
    simp only [stepB, Bool.and_eq_true, decide_eq_true_eq, Bool.or_eq_true] at h1 ⊢
    refine ⟨?_, Or.inl hk⟩
    obtain ⟨m, hm⟩ : ∃ m : Nat, d i = (m : Int) := ⟨(d i).toNat, by omega⟩
    have hm1 : m < 2 ^ n := by
      have := h1.1
      rw [hm] at this
      have h3 : ((m / 2 ^ n : Nat) : Int) = 0 := by rw [← this]; push_cast; rfl
      have h4 : m / 2 ^ n = 0 := by omega
      have hp : 0 < 2 ^ n := Nat.pow_pos (by omega)
      have h5 := Nat.lt_mul_div_succ m hp
      rw [h4] at h5
      omega
    have hp1 : 2 ^ t < 2 ^ n := Nat.pow_lt_pow_right (by omega) ht
    have hp3 : 2 ^ n ≤ 2 ^ 24 := Nat.pow_le_pow_right (by omega) hn
    have hp2 : 2 ^ t < 4294967296 := by omega
    have hx := Nat.xor_lt_two_pow hm1 hp1
    rw [togD, if_pos rfl, hm, pow_nat t (by omega), xor_nat m (2 ^ t) (by omega) hp2]
    have h0 : (m ^^^ 2 ^ t) / 2 ^ n = 0 := Nat.div_eq_of_lt hx
    have : (((m ^^^ 2 ^ t) / 2 ^ n : Nat) : Int) = 0 := by rw [h0]; rfl
    rw [← this]; push_cast; rfl
  · have h1 := h' i hi
    unfold stepB at h1 ⊢
    rw [togD, if_neg e]
    exact h1
/-- the drum behind the first k changes -/
def mcD (d : Nat → Int) (cl : List (Int × Int × Bool)) : Nat → Nat → Int
  | 0 => d
  | k + 1 => togD (mcD d cl k) (cgS cl k).toNat (cgT cl k).toNat
theorem mcD_wf {d : Nat → Int} (hd : DWF d) (cl : List (Int × Int × Bool)) : ∀ k, DWF (mcD d cl k)
  | 0 => hd
  | k + 1 => tog_wf' (mcD_wf hd cl k) _ _
/-- the code of the change k -/
def mcB (s : Int) (n : Nat) (d : Nat → Int) (cl : List (Int × Int × Bool)) (k : Nat) : Int := if plB s n (cgS cl k) (cgT cl k) then (if pinB (mcD d cl k) (cgS cl k).toNat (cgT cl k).toNat = cgP cl k then 4 else 0) else 2
def McG (s : Int) (n : Nat) (d : Nat → Int) (cl : List (Int × Int × Bool)) (k : Nat) : Prop := ∀ j, j < k → mcB s n d cl j = 0
theorem McG_succ {s : Int} {n : Nat} {d : Nat → Int} {cl : List (Int × Int × Bool)} {k : Nat} (h : McG s n d cl k) (h' : mcB s n d cl k = 0) : McG s n d cl (k + 1) := fun j hj => by
  rcases Nat.lt_or_ge j k with h1 | h1
  · exact h j h1
  · rw [show j = k by omega]; exact h'
/-- the first change that has an error, or how many there are -/
def mcI (s : Int) (n : Nat) (d : Nat → Int) (cl : List (Int × Int × Bool)) : Nat := ((List.range cl.length).find? fun k => mcB s n d cl k != 0).getD cl.length
theorem mcI_all {s : Int} {n : Nat} {d : Nat → Int} {cl : List (Int × Int × Bool)} (h : McG s n d cl cl.length) : mcI s n d cl = cl.length := by
  have : (List.range cl.length).find? (fun k => mcB s n d cl k != 0) = none := by
    rw [List.find?_eq_none]
    intro k hk
    simp [h k (List.mem_range.1 hk)]
  rw [mcI, this]; rfl
theorem mcI_bad {s : Int} {n : Nat} {d : Nat → Int} {cl : List (Int × Int × Bool)} {k : Nat} (hk : k < cl.length) (h : McG s n d cl k) (hb : mcB s n d cl k ≠ 0) : mcI s n d cl = k := by
  have e : (List.range cl.length).find? (fun k => mcB s n d cl k != 0) = some k := by
    rw [List.find?_range_eq_some]
    refine ⟨by simpa using hb, List.mem_range.2 hk, fun j hj => ?_⟩
    simp [h j hj]
  rw [mcI, e]; rfl
def mcC (s : Int) (n : Nat) (d : Nat → Int) (cl : List (Int × Int × Bool)) : Int := if mcI s n d cl = cl.length then 0 else mcB s n d cl (mcI s n d cl)
theorem mcC_all {s : Int} {n : Nat} {d : Nat → Int} {cl : List (Int × Int × Bool)} (h : McG s n d cl cl.length) : mcC s n d cl = 0 := by rw [mcC, if_pos (mcI_all h)]
theorem mcC_bad {s : Int} {n : Nat} {d : Nat → Int} {cl : List (Int × Int × Bool)} {k : Nat} (hk : k < cl.length) (h : McG s n d cl k) (hb : mcB s n d cl k ≠ 0) : mcC s n d cl = mcB s n d cl k := by
  rw [mcC, mcI_bad hk h hb, if_neg (by omega)]
theorem mcD_dr {s : Int} {n : Nat} {d : Nat → Int} {cl : List (Int × Int × Bool)} (hd : DWF d) (hdr : drB s n d = true) (hs : s ≤ 96) (hn : n ≤ 24) : ∀ k, McG s n d cl k → drB s n (mcD d cl k) = true
  | 0, _ => hdr
  | k + 1, h => by
    have h1 := mcD_dr hd hdr hs hn k fun j hj => h j (by omega)
    have h2 := h k (by omega)
    unfold mcB at h2
    by_cases hp : plB s n (cgS cl k) (cgT cl k) = true
    · obtain ⟨a, t, e1, e2, e3, e4⟩ := plB_nat hp
      rw [mcD, e1, e2]
      exact drB_tog (mcD_wf hd cl k) h1 e3 hs e4 hn
    · rw [if_neg hp] at h2; cases h2
def maC (s : Int) (l : List (Int × Int)) (d : Nat → Int) (cl : List (Int × Int × Bool)) : Int := if askB s l d then (if cl.length ≤ 2400 then mcC s l.length d cl else 3) else 1
def maN (s : Int) (l : List (Int × Int)) (d : Nat → Int) (cl : List (Int × Int × Bool)) : Int := if askB s l d then (if cl.length ≤ 2400 then (mcI s l.length d cl : Nat) else 0) else 0
def maD (s : Int) (l : List (Int × Int)) (d : Nat → Int) (cl : List (Int × Int × Bool)) : Nat → Int := if maC s l d cl = 0 then mcD d cl cl.length else fun _ => 0
theorem results_dr3 {fn : Func} {p q r : Tmp} (h : fn.results = #[.cell p 29, .tmp q, .tmp r]) (tmps : Array Value) (w : World) (g : Nat) (t : TypeId) (z : Nat → Int) (c c2 : Value)
    (hp : tmps.getD p undef = .pointer (some ⟨g, 0, none⟩)) (hq : tmps.getD q undef = c) (hr : tmps.getD r undef = c2) (hg : w.heap[g]? = some (.cells (da z) t (0, 0))) :
    (results fn tmps).run Try.prog w = .ok (.tuple #[.agg (da z), c, c2]) w := by
  have hp' : tmps[p]?.getD undef = .pointer (some ⟨g, 0, none⟩) := by simpa using hp
  have hq' : tmps[q]?.getD undef = c := by simpa using hq
  have hr' : tmps[r]?.getD undef = c2 := by simpa using hr
  simp [results, h, hp', hq', hr', asAddr, run_loadVar_row w g t 29 (da z) (0, 0) _ hg Try.underlying29 rfl (by rw [da_size]; exact info29)]
/-- a drum, a number and a code come back -/
def DrN (r : Nat → Int) (x c : Int) (w : World) (e : Ending) (w' : World) : Prop := e = .returned (.tuple #[.agg (da r), .int .i64 x, .int .i64 c]) ∧ Below w.heap.size w w'

set_option maxRecDepth 20000 in
set_option maxHeartbeats 2000000 in
theorem l05Make_any (b : Nat) (s : Int) (A : Option Addr) (c : Nat) (l : List (Int × Int)) (d : Nat → Int) (B : Option Addr) (cB : Nat) (cl : List (Int × Int × Bool)) (w : World) (hF : FP w b s A l.length c) (hA : HA w A l) (hn : l.length ≤ 1048576) (hwf : HWF l) (hs : -32768 ≤ s ∧ s ≤ 32767) (hd : DWF d)
    (hC : CgA w B cl) (hcn : cl.length ≤ 1048576) (hcw : CgWF cl) :
    Calls Try.prog 87 #[.pointer (some ⟨b, 0, none⟩), .agg (da d), .slice B cl.length cB] w (DrN (maD s l d cl) (maN s l d cl) (maC s l d cl) w) := by
  have hz := zeroDrum
  obtain ⟨X0, hX⟩ : ∃ X, X = (w.alloc (.cells (da d) 29)).alloc (.cells za 29) := ⟨_, rfl⟩
  have b0 : Below w.heap.size w X0 := by rw [hX]; exact ((Below.refl _ _).alloc (Nat.le_refl _) _).alloc (by simp) _
  have D0 : Dr X0 w.heap.size 29 d := by rw [hX]; exact heap_old' (heap_new' _ _ _ rfl)
  have Z0 : Dr X0 (w.heap.size + 1) 29 (fun _ => 0) := by rw [hX, za_eq]; exact heap_new' _ _ _ (by simp)
  go_enter Try.func87, Try.ntmps87
  go_upto_region 1 with fail
  rw [← hX]
  clear hX hz
  go_wp2_with fail
  refine (l02Asked_any b _ s A c l d _ (hF.keep b0) D0 (hA.below b0) hn hwf hs hd).mono ?_
  rintro e w1 ⟨rfl, hb1⟩
  have b1 := step_below hb1 b0
  have D1 := D0.keep hb1
  have Z1 := Z0.keep hb1
  cases ha : askB s l d
  · have HC := hide (show maC s l d cl = 1 by simp [maC, ha])
    have HN := hide (show maN s l d cl = 0 by simp [maN, ha])
    have HY := hide (show maD s l d cl = fun _ => 0 by simp [maD, HC.out])
    have R2 : w1.heap[w.heap.size + 1]? = some (.cells (da fun _ => 0) 29 (0, 0)) := Z1
    have HZ := hide R2
    clear R2 Z1 ha
    simp only [codeI]
    go_wp2_with (first | (with_reducible refine wpList_build0 rfl rfl ?_) | (with_reducible refine wpList_store_row rfl 29 (.tmp 6) (.tmp 18) rfl (w.heap.size + 1) (da fun _ => 0) rfl rfl 29 _ HZ.out (by rw [da_size]; exact info29) (by simp only [da_size]) (da_one _) ?_))
    exact bodyPost_ret (v := .tuple #[.agg (da fun _ => 0), .int .i64 0, .int .i64 1]) (results_dr3 Try.results87 _ _ (w.heap.size + 1) 29 _ _ _ (by simp [Act.put]) (by simp [Act.put]) (by simp [Act.put]) (setRow_heap _ _ _ _ _ _ HZ.out)) rfl ⟨by rw [HY.out, HC.out, HN.out], below_setRow b1 (by omega)⟩
  simp only [codeI]
  have hfa := ask_all ha
  by_cases h8 : cl.length ≤ 2400
  · have hg2 : ¬ (2400 : Int) < (cl.length : Int) := by omega
    have HC := hide (show maC s l d cl = mcC s l.length d cl by simp [maC, ha, h8])
    have HN := hide (show maN s l d cl = (mcI s l.length d cl : Nat) by simp [maN, ha, h8])
    have HDR := hide (fun k (h : McG s l.length d cl k) => mcD_dr hd hfa.2.2.2 hfa.1.2 hfa.2.1.2 k h)
    have HA1 := hide ha
    obtain ⟨⟨hs2, hs96⟩, ⟨hl1, hl24⟩, _, _⟩ := hfa
    clear ha h8
    go_wp2_with fail
    go_loopw [10] (fun i wr => ∃ k : Nat, k ≤ cl.length ∧ i = .int .i64 k ∧ McG s l.length d cl k ∧ Dr wr w.heap.size 29 (mcD d cl k) ∧ Dr wr (w.heap.size + 1) 29 (fun _ => 0) ∧ Below w.heap.size w wr)
      (fun i _ => cl.length - (intOf i).toNat)
    case atStart => exact ⟨0, Nat.zero_le _, rfl, fun j hj => absurd hj (Nat.not_lt_zero _), D1, Z1, b1⟩
    case round =>
      obtain ⟨k, hk, rfl, hG, Dk, Zk, hb⟩ := hrel
      have HG := hide hG
      have hdr := HDR.out k hG
      clear hG
      by_cases hlt : k < cl.length
      · obtain ⟨bb, o, rfl, hbb, c1, c2, c3⟩ := hC k hlt
        have d1 := (hb.cell (p := ⟨bb, o + k * 3, none⟩) hbb).trans c1
        have d2 := (hb.cell (p := ⟨bb, o + k * 3 + 1, none⟩) hbb).trans c2
        have d3 := (hb.cell (p := ⟨bb, o + k * 3 + 2, none⟩) hbb).trans c3
        obtain ⟨⟨w1, w2⟩, ⟨w3, w4⟩⟩ := hcw k hlt
        have hki : (k : Int) < (cl.length : Int) := by omega
        obtain ⟨q, hq⟩ : ∃ q, mcD d cl k = q := ⟨_, rfl⟩
        have hqw : DWF q := by rw [← hq]; exact mcD_wf hd cl k
        have HB := hide (show mcB s l.length d cl k = if plB s l.length (cgS cl k) (cgT cl k) then (if pinB q (cgS cl k).toNat (cgT cl k).toNat = cgP cl k then 4 else 0) else 2 by rw [mcB, hq])
        have HT := hide (show mcD d cl (k + 1) = togD q (cgS cl k).toNat (cgT cl k).toNat by rw [mcD, hq])
        rw [hq] at Dk hdr
        have haq : askB s l q = true := by
          have := HA1.out
          unfold askB at this ⊢
          rw [Bool.and_eq_true] at this
          rw [this.1, hdr]; rfl
        obtain ⟨x, hx⟩ : ∃ x, cgS cl k = x := ⟨_, rfl⟩
        obtain ⟨y, hy⟩ : ∃ y, cgT cl k = y := ⟨_, rfl⟩
        obtain ⟨z, hzz⟩ : ∃ z, cgP cl k = z := ⟨_, rfl⟩
        rw [hx] at d1 HB HT w1 w2
        rw [hy] at d2 HB HT w3 w4
        rw [hzz] at d3 HB
        have hwx : IntKind.i64.wrap x = x := IntWalk.i64_in _ (by omega)
        have hwy : IntKind.i64.wrap y = y := IntWalk.i64_in _ (by omega)
        clear c1 c2 c3 hx hy hzz hq
        go_wp2_with fail
        refine (l02Place_any b _ s A c l q x y _ ((hF.keep hb)) Dk (hA.below hb) hn hwf hs hqw).mono ?_
        rintro e w5 ⟨rfl, hb5⟩
        have b5 := step_below hb5 hb
        have D5 := Dk.keep hb5
        have Z5 := Zk.keep hb5
        have R2 : w5.heap[w.heap.size + 1]? = some (.cells (da fun _ => 0) 29 (0, 0)) := Z5
        have HZ := hide R2
        have e3 := (hb5.cell (p := ⟨bb, o + k * 3 + 2, none⟩) (Nat.lt_of_lt_of_le hbb hb.size)).trans d3
        have hlb := hb5.size
        clear R2 d1 d2 d3 Dk
        simp only [haq]
        cases hp : plB s l.length x y
        · have HM := hide (show mcB s l.length d cl k = 2 by rw [HB.out, hp]; rfl)
          have HI := hide (mcI_bad hlt HG.out (by rw [HM.out]; decide))
          have HCC := hide ((mcC_bad hlt HG.out (by rw [HM.out]; decide)).trans HM.out)
          have HY := hide (show maD s l d cl = fun _ => 0 by rw [maD, HC.out, HCC.out]; rfl)
          clear hp Z5 D5
          simp only [cod3]
          go_wp2_with fail
          refine wp_region_later (by kernel_rfl) (by kernel_rfl) ?_
          repeat (go_big_quiet_step (fail))
          refine wpQuiet_nil ?_
          rintro wz ⟨⟨_, hqz⟩, rfl⟩
          have bz := b5.trans (hqz.mono b5.size)
          have RZ := (hqz.block _ (Array.getElem?_eq_some_iff.1 HZ.out).1).trans HZ.out
          have HZ := hide RZ
          clear RZ
          go_wp2_with (first | (with_reducible refine wpList_build0 rfl rfl ?_) | (with_reducible refine wpList_store_row rfl 29 (.tmp 6) (.tmp 61) rfl (w.heap.size + 1) (da fun _ => 0) rfl rfl 29 _ HZ.out (by rw [da_size]; exact info29) (by simp only [da_size]) (da_one _) ?_))
          exact bodyPost_ret (v := .tuple #[.agg (da fun _ => 0), .int .i64 k, .int .i64 2]) (results_dr3 Try.results87 _ _ (w.heap.size + 1) 29 _ _ _ (by simp [Act.put]) (by simp [Act.put]) (by simp [Act.put]) (setRow_heap _ _ _ _ _ _ HZ.out)) rfl ⟨by rw [HY.out, HC.out, HCC.out, HN.out, HI.out], below_setRow bz (by omega)⟩
        obtain ⟨a, t, hxa, hyt, ha1, ht1⟩ := plB_nat hp
        have ha96 : a < 96 := by omega
        have ht32 : t < 32 := by omega
        have hax : x.toNat = a := by omega
        have hty : y.toNat = t := by omega
        have HM := hide (show mcB s l.length d cl k = if pinB q a t = z then 4 else 0 by rw [HB.out, hp, hax, hty]; rfl)
        rw [hax, hty] at HT
        have KP : ∀ W, Dr W w.heap.size 29 q → Calls Try.prog 58 #[.pointer (some ⟨w.heap.size, 0, none⟩), .int .i64 a, .int .i64 t] W fun e w' => e = .returned (.bool (pinB q a t)) ∧ W = w' := fun W hW => l02Pin_any _ a t q W hW ha96 ht32 hqw
        have L3 := Later.cell e3
        have LD5 : Hid (∀ p : Later w5, Dr p.w w.heap.size 29 q) := hide fun p => D5.keep p.h
        clear hp hax hty e3
        subst hxa hyt
        obtain ⟨pb, hpb⟩ : ∃ pb, pinB q a t = pb := ⟨_, rfl⟩
        rw [hpb] at HM KP
        clear hpb
        simp only [cod3]
        by_cases hpz : pb = z
        · subst hpz
          rw [if_pos rfl] at HM
          have HI := hide (mcI_bad hlt HG.out (by rw [HM.out]; decide))
          have HCC := hide ((mcC_bad hlt HG.out (by rw [HM.out]; decide)).trans HM.out)
          have HY := hide (show maD s l d cl = fun _ => 0 by rw [maD, HC.out, HCC.out]; rfl)
          clear Z5 D5
          cases pb
          all_goals
            go_wp2_with fail
            refine wp_region_later (by kernel_rfl) (by kernel_rfl) ?_
            repeat (go_big_quiet_step ((go_at_call 58; with_reducible exact Later.same (KP _ (LD5.out _)))))
            refine wpQuiet_nil ?_
            rintro wz ⟨⟨_, hqz⟩, rfl⟩
            have bz := b5.trans (hqz.mono b5.size)
            have RZ := (hqz.block _ (Array.getElem?_eq_some_iff.1 HZ.out).1).trans HZ.out
            have HZ := hide RZ
            clear RZ
            go_wp2_with (first | (with_reducible refine wpList_build0 rfl rfl ?_) | (with_reducible refine wpList_store_row rfl 29 (.tmp 6) (.tmp 61) rfl (w.heap.size + 1) (da fun _ => 0) rfl rfl 29 _ HZ.out (by rw [da_size]; exact info29) (by simp only [da_size]) (da_one _) ?_))
            exact bodyPost_ret (v := .tuple #[.agg (da fun _ => 0), .int .i64 k, .int .i64 4]) (results_dr3 Try.results87 _ _ (w.heap.size + 1) 29 _ _ _ (by simp [Act.put]) (by simp [Act.put]) (by simp [Act.put]) (setRow_heap _ _ _ _ _ _ HZ.out)) rfl ⟨by rw [HY.out, HC.out, HCC.out, HN.out, HI.out], below_setRow bz (by omega)⟩
        · rw [if_neg hpz] at HM
          have HG2 := hide (McG_succ HG.out HM.out)
          obtain ⟨q1, q2⟩ := hqw a ha96
          have hzp : z = !pb := by cases z <;> cases pb <;> simp_all
          subst hzp
          clear hpz
          cases pb
          all_goals
            go_wp2_with fail
            refine wp_region_later (by kernel_rfl) (by kernel_rfl) ?_
            repeat (go_big_quiet_step ((go_at_call 58; with_reducible exact Later.same (KP _ (LD5.out _)))))
            refine wpQuiet_nil ?_
            rintro wz ⟨⟨_, hqz⟩, rfl⟩
            have bz := b5.trans (hqz.mono b5.size)
            have Dz := D5.keep hqz
            have Zz := Z5.keep hqz
            have c1 := Dz.cell ha96
            have f1 := Dz.frozen a
            have S1 : Dr (wz.setCell ⟨w.heap.size, a, none⟩ (.int .u32 (bits .xor .u32 (q a) (2 ^ t % 4294967296)))) w.heap.size 29 (mcD d cl (k + 1)) := by rw [HT.out]; exact Dz.set a _
            have S2 : Dr (wz.setCell ⟨w.heap.size, a, none⟩ (.int .u32 (bits .xor .u32 (q a) (2 ^ t % 4294967296)))) (w.heap.size + 1) 29 (fun _ => 0) := Zz.other (by omega) _
            have S3 : Below w.heap.size w (wz.setCell ⟨w.heap.size, a, none⟩ (.int .u32 (bits .xor .u32 (q a) (2 ^ t % 4294967296)))) := bz.setCell (p := ⟨_, _, none⟩) (Nat.le_refl _) _
            have HS1 := hide S1
            clear Dz Zz D5 Z5 S1
            go_wp2_with fail
            go_roundw
            case rel => exact ⟨k + 1, hlt, by go_num, HG2.out, HS1.out, S2, S3⟩
            case measure => simp [intOf]; omega
      · obtain rfl : k = cl.length := by omega
        have HI := hide (mcI_all HG.out)
        have HCC := hide (mcC_all HG.out)
        have HY := hide (show maD s l d cl = mcD d cl cl.length by rw [maD, HC.out, HCC.out]; rfl)
        have HR := hide Dk.range
        have R2 : wr.heap[w.heap.size + 1]? = some (.cells (da fun _ => 0) 29 (0, 0)) := Zk
        have HZ := hide R2
        clear R2 Zk Dk
        go_wp2_with (first | (with_reducible refine wpList_load_da rfl 29 (.tmp 4) rfl w.heap.size 0 rfl (mcD d cl cl.length) _ HR.out Try.underlying29 rfl (dInfo (mcD d cl cl.length)) ?_) | (with_reducible refine wpList_store_row rfl 29 (.tmp 6) (.tmp 73) rfl (w.heap.size + 1) (da (mcD d cl cl.length)) rfl rfl 29 _ HZ.out (by rw [da_size]; exact info29) (by simp only [da_size]) (da_one _) ?_))
        exact bodyPost_ret (v := .tuple #[.agg (da (mcD d cl cl.length)), .int .i64 cl.length, .int .i64 0]) (results_dr3 Try.results87 _ _ (w.heap.size + 1) 29 _ _ _ (by simp [Act.put]) (by simp [Act.put]) (by simp [Act.put]) (setRow_heap _ _ _ _ _ _ HZ.out)) rfl ⟨by rw [HY.out, HC.out, HCC.out, HN.out, HI.out], below_setRow hb (by omega)⟩
  · have hg2 : (2400 : Int) < (cl.length : Int) := by omega
    have HC := hide (show maC s l d cl = 3 by simp [maC, ha, h8])
    have HN := hide (show maN s l d cl = 0 by simp [maN, ha, h8])
    have HY := hide (show maD s l d cl = fun _ => 0 by simp [maD, HC.out])
    have R2 : w1.heap[w.heap.size + 1]? = some (.cells (da fun _ => 0) 29 (0, 0)) := Z1
    have HZ := hide R2
    clear R2 Z1 ha h8
    go_wp2_with (first | (with_reducible refine wpList_build0 rfl rfl ?_) | (with_reducible refine wpList_store_row rfl 29 (.tmp 6) (.tmp 23) rfl (w.heap.size + 1) (da fun _ => 0) rfl rfl 29 _ HZ.out (by rw [da_size]; exact info29) (by simp only [da_size]) (da_one _) ?_))
    exact bodyPost_ret (v := .tuple #[.agg (da fun _ => 0), .int .i64 0, .int .i64 3]) (results_dr3 Try.results87 _ _ (w.heap.size + 1) 29 _ _ _ (by simp [Act.put]) (by simp [Act.put]) (by simp [Act.put]) (setRow_heap _ _ _ _ _ _ HZ.out)) rfl ⟨by rw [HY.out, HC.out, HN.out], below_setRow b1 (by omega)⟩
end Go.Proofs.Ytncdgjaadlpncaa
