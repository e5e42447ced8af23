import Derived.Test.YtnngbnhdcknfnaaPly
import Derived.Test.YtnngbnhdcknfnaaOz
namespace Go.Proofs.Ytnngbnhdcknfnaa
open Go.RowKit

/-- the sections that are played in the first k quarters -/
def plsd (o : Nat → Int) (k : Nat) : List Nat := ((List.range k).filter fun j => decide (0 ≤ o j)).map fun j => (o j).toNat
theorem plsd_yes {o : Nat → Int} {k : Nat} (h : 0 ≤ o k) : plsd o (k + 1) = plsd o k ++ [(o k).toNat] := by simp [plsd, List.range_succ, List.filter_append, h]
theorem plsd_no {o : Nat → Int} {k : Nat} (h : ¬ 0 ≤ o k) : plsd o (k + 1) = plsd o k := by simp [plsd, List.range_succ, List.filter_append, h]
theorem plsd_len (o : Nat → Int) (k : Nat) : (plsd o k).length ≤ k := by
  have := List.length_filter_le (fun j => decide (0 ≤ o j)) (List.range k)
  simpa [plsd] using this
def plSt (s : Int) (m : List (Int × Int)) (st : Int × Int) (i : Nat) : Int × Int := (st.1 + (arI s (secF m i - st.2) + secS m i), arI s (secF m i + secS m i))
def plRun (s : Int) (m : List (Int × Int)) (xs : List Nat) : Int × Int := xs.foldl (plSt s m) (0, 0)
theorem plRun_nil (s : Int) (m : List (Int × Int)) : plRun s m [] = (0, 0) := rfl
theorem plRun_snoc (s : Int) (m : List (Int × Int)) (xs : List Nat) (i : Nat) : plRun s m (xs ++ [i]) = plSt s m (plRun s m xs) i := by simp [plRun]
/-- what the turns are in -/
def PlIn (s : Int) (k : Nat) (st : Int × Int) : Prop := (0 ≤ st.1 ∧ st.1 ≤ 192 * (k : Int)) ∧ (0 ≤ st.2 ∧ st.2 < s)
theorem PlIn.zero {s : Int} (hs : 2 ≤ s) : PlIn s 0 (0, 0) := ⟨⟨by simp, by simp⟩, by simp, by show (0 : Int) < s; omega⟩
theorem PlIn.step {s : Int} {m : List (Int × Int)} {k i : Nat} {st : Int × Int} (h : PlIn s k st) (hs : 2 ≤ s ∧ s ≤ 96) (hG : SG (secG s m) m.length) (hi : i < m.length) : PlIn s (k + 1) (plSt s m st i) := by
  have h1 := sec_in hG i hi
  have h2 := arI_in (s := s) (x := secF m i - st.2) hs.1
  have h3 := arI_in (s := s) (x := secF m i + secS m i) hs.1
  obtain ⟨⟨h4, h5⟩, h6, h7⟩ := h
  refine ⟨⟨?_, ?_⟩, h3⟩
  · show 0 ≤ st.1 + (arI s (secF m i - st.2) + secS m i); omega
  · show st.1 + (arI s (secF m i - st.2) + secS m i) ≤ 192 * ((k + 1 : Nat) : Int); push_cast; omega
theorem PlIn.up {s : Int} {k : Nat} {st : Int × Int} (h : PlIn s k st) : PlIn s (k + 1) st := ⟨⟨h.1.1, by have := h.1.2; push_cast; omega⟩, h.2⟩
def sdV (s : Int) (l m : List (Int × Int)) (o : Nat → Int) : Int := if prgB s l m o then (plRun s m (plsd o 48)).1 else 0

theorem Bk.keepB {w w' : World} {base g : Nat} {t : TypeId} {cs : Array Value} (h : Bk w g t cs) (hb : Below base w w') (hg : g < base) : Bk w' g t cs := (hb.block g hg).trans h
theorem player_any (s : Int) (A : Option Addr) (n c : Nat) (B : Option Addr) (m d : Nat) (o : Nat → Int) (w : World) :
    Calls Try.prog 74 #[.agg (plA s A n c B m d o)] w fun e w' => e = .returned (.func (.func 91) #[] #[.pointer (some ⟨w.heap.size + 1 + 1, 0, none⟩), .pointer (some ⟨w.heap.size, 0, none⟩), .pointer (some ⟨w.heap.size + 1, 0, none⟩)]) ∧
      Bk w' (w.heap.size + 1 + 1) 2 #[.int .i64 0] ∧ Bk w' (w.heap.size + 1) 2 #[.int .i64 0] ∧ Bk w' w.heap.size 84 (plA s A n c B m d o) ∧ Below w.heap.size w w' := by
  have hmf : ∀ (fn : Fn) (first cap : Array Value) (w : World), (Instr.makeFunc fn first cap).run Try.prog w = .ok (.func fn first cap) w := fun _ _ _ _ => rfl
  go_enter Try.func74, Try.ntmps74
  go_wp2
  go_ret
  exact ⟨rfl, Bk.new _ _ _ (by simp), (Bk.new _ _ _ (by simp)).old _, ((Bk.new _ _ _ rfl).old _).old _, (((Below.refl _ _).alloc (Nat.le_refl _) _).alloc (by simp) _).alloc (by simp; omega) _⟩

theorem l04End_any (b : Nat) (s : Int) (A : Option Addr) (n c : Nat) (F S : Int) (w : World) (hF : FP w b s A n c) (hs : 2 ≤ s ∧ s ≤ 96) (hFb : 0 ≤ F ∧ F ≤ 32767) (hS : 0 ≤ S ∧ S ≤ 32767) :
    Calls Try.prog 90 #[.pointer (some ⟨b, 0, none⟩), .agg #[.int .i16 F, .int .i16 S]] w (SaysI' (arI s (F + S)) w) := by
  obtain ⟨X, hX⟩ : ∃ X, X = w.alloc (.cells #[.int .i16 F, .int .i16 S] 90) := ⟨_, rfl⟩
  have hb0 : Below w.heap.size w X := by rw [hX]; exact (Below.refl _ _).alloc (Nat.le_refl _) _
  have S0 : Bk X w.heap.size 90 #[.int .i16 F, .int .i16 S] := by rw [hX]; exact Bk.new _ _ _ rfl
  obtain ⟨h1, h2⟩ := hs
  obtain ⟨h3, h4⟩ := hFb
  obtain ⟨h5, h6⟩ := hS
  have e0 := Later.cell (hF.keep hb0).1
  have e1 := Later.cell (S0.cell (i := 0) rfl)
  have e2 := Later.cell (S0.cell (i := 1) rfl)
  have hne : (s == 0) = false := by simp; omega
  have hti : (F + S).tmod s = (F + S) % s := Int.tmod_eq_emod_of_nonneg (by omega)
  have hin := arI_in (s := s) (x := F + S) h1
  have hw0 : IntKind.i64.wrap (F + S) = F + S := IntWalk.i64_in _ (by omega)
  have hw2 : IntKind.i64.wrap ((F + S) % s) = (F + S) % s := IntWalk.i64_in _ (by unfold arI at hin; omega)
  have hsz := hb0.size
  clear hin
  go_enter Try.func90, Try.ntmps90
  go_upto_region 1 with fail
  rw [← hX]
  clear hX
  refine wp_region_later (by kernel_rfl) (by kernel_rfl) ?_
  repeat (go_big_quiet_step (fail))
  refine wpQuiet_nil ?_
  rintro _ ⟨⟨wq, hq⟩, rfl⟩
  go_wp2
  go_ret
  exact ⟨rfl, hb0.trans (hq.mono hsz)⟩

end Go.Proofs.Ytnngbnhdcknfnaa
