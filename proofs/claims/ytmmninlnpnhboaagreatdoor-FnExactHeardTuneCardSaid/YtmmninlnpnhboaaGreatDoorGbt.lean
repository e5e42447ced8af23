import Derived.Test.YtmmninlnpnhboaaGreatDoorGbs
import Derived.Test.YtmmninlnpnhboaaGreatDoorGbh
namespace Go.Proofs.YtmmninlnpnhboaaGreatDoor
open Go.RowKit
/-- what comes of a tune, a frame and a drum: the code, and the tracks -/
def tcC (s : Int) (l : List (Int × Int)) (d : Nat → Int) (L : List (Int × Int)) : Int := if tkK s l d L = 0 then (if tkB s.toNat l L d then 0 else 8) else tkK s l d L
def tcL (s : Int) (l : List (Int × Int)) (d : Nat → Int) (L : List (Int × Int)) : List Nat := if tcC s l d L = 0 then tkN l L d L.length else []
def OwnE (w : World) (xs : List Nat) (v : Value) (e : Ending) (w' : World) : Prop := ∃ (A : Option Addr) (c : Nat), e = .returned (.tuple #[.slice A xs.length c, v]) ∧ w'.ownsRow w.heap.size 2 1 (.slice A xs.length c) xs.length (tcells xs) ∧ Below w.heap.size w w'
theorem ownE_nil {w w' : World} {v : Value} (hb : Below w.heap.size w w') : OwnE w [] v (.returned (.tuple #[.slice none 0 0, v])) w' := ⟨none, 0, rfl, ⟨rfl, Or.inl ⟨rfl, rfl⟩⟩, hb⟩
theorem wpList_want_da {ops : Array Oper} {rest : List Oper} {op : Oper} {a : Act} {w : World} {Q : Exit → Act → World → Prop} (hw : Region.wanted op (yielded ops a.tmps) = true) (x : Operand) (ho : op.op = .load 33 x)
    (b p : Nat) (hx : a.eval x = .pointer (some ⟨b, p, none⟩)) (q : Nat → Int) (hc : w.rangeAt b p (dv q))
    (h : wpList Tryz.prog ops Q rest (a.put op.dst (.agg (da q))) w) : wpList Tryz.prog ops Q (op :: rest) a w :=
  BigFrame.wpList_want hw fun _ hK => wp_load_mid 33 x ho b p hx (dv q) _ hc Tryz.underlying33 rfl (dInfo q) (hK _ _ h)
theorem wpList_build0G {ops : Array Oper} {rest : List Oper} {op : Oper} {a : Act} {w : World} {Q : Exit → Act → World → Prop} (hw : Region.wanted op (yielded ops a.tmps) = true) (ho : op.op = .build 33 #[])
    (h : wpList Tryz.prog ops Q rest (a.put op.dst (.agg (da fun _ => 0))) w) : wpList Tryz.prog ops Q (op :: rest) a w := by
  have e : (Tryz.prog.built 33 ((#[] : Array (Nat × Operand)).map fun (i, x) => (i, a.eval x)).toList) = some za := by simpa using built0
  refine BigFrame.wpList_want hw fun _ hK => wp_build 33 #[] ho (by rw [e]; rfl) ?_
  rw [e, ← za_eq] at *
  exact hK _ _ h
theorem erX_1 (p : Nat → Addr) : erX p 1 = erV (p 0) := rfl
theorem erX_2 (p : Nat → Addr) : erX p 2 = erV (p 1) := rfl
theorem erX_8 (p : Nat → Addr) : erX p 8 = erV (p 6) := rfl
theorem tkK_cases (s : Int) (l : List (Int × Int)) (d : Nat → Int) (L : List (Int × Int)) : tkK s l d L = 0 ∨ tkK s l d L = 1 ∨ tkK s l d L = 2 := by
  unfold tkK pgK
  split
  · split
    · exact Or.inl rfl
    · exact Or.inr (Or.inr rfl)
  · exact Or.inr (Or.inl rfl)
theorem tkK_zero {s : Int} {l : List (Int × Int)} {d : Nat → Int} {L : List (Int × Int)} (h : tkK s l d L = 0) : frB s l = true ∧ drB s l.length d = true ∧ okB L = true ∧ lenI L ≤ s := by
  unfold tkK pgK at h
  split at h
  · rename_i h1
    simp only [Bool.and_eq_true] at h1
    split at h
    · rename_i h2
      exact ⟨h1.1.1, h1.1.2, h1.2, h2⟩
    · cases h
  · cases h
end Go.Proofs.YtmmninlnpnhboaaGreatDoor
namespace Go.Proofs.YtmmninlnpnhboaaGreatDoor
open Go.RowKit
theorem tcC_cases (s : Int) (l : List (Int × Int)) (d : Nat → Int) (L : List (Int × Int)) : tcC s l d L = 0 ∨ tcC s l d L = 1 ∨ tcC s l d L = 2 ∨ tcC s l d L = 8 := by
  unfold tcC
  rcases tkK_cases s l d L with h | h | h <;> rw [h]
  · split
    · split
      · exact Or.inl rfl
      · exact Or.inr (Or.inr (Or.inr rfl))
    · rename_i h1
      exact absurd rfl h1
  · exact Or.inr (Or.inl rfl)
  · exact Or.inr (Or.inr (Or.inl rfl))
theorem tcL_len (s : Int) (l : List (Int × Int)) (d : Nat → Int) (L : List (Int × Int)) : (tcL s l d L).length ≤ 1048576 := by
  unfold tcL
  split
  · rename_i h
    rw [tkN_len]
    unfold tcC at h
    split at h
    · rename_i h1
      have := ok_len (tkK_zero h1).2.2.1
      omega
    · rename_i h1
      exact absurd h h1
  · simp
def ckB (s : Int) (l : List (Int × Int)) (d : Nat → Int) (L : List (Int × Int)) : Bool := decide (tcC s l d L = 0)
theorem codeX_any {p : Nat → Addr} {w : World} (h : ErrP p w) {k : Int} (hk : k = 0 ∨ k = 1 ∨ k = 2 ∨ k = 8) : Calls Tryz.prog 38 #[erX p k] w fun e w' => e = .returned (.int .i64 k) ∧ w = w' := by
  rcases hk with rfl | rfl | rfl | rfl
  · exact codeOf_nil h
  · exact codeOf_0 h
  · exact codeOf_1 h
  · exact codeOf_6 h
end Go.Proofs.YtmmninlnpnhboaaGreatDoor
namespace Go.Proofs.YtmmninlnpnhboaaGreatDoor
open Go.RowKit
/-- the table and the errors -/
def TabE (w : World) : Prop := TabW w ∧ ∃ p, ErrP p w
theorem TabE.keep {w w' : World} (h : TabE w) (hb : Below w.heap.size w w') : TabE w' := ⟨h.1.keep hb, let ⟨p, hp⟩ := h.2; ⟨p, hp.keep hb⟩⟩
def tcZ (s : Int) (l : List (Int × Int)) (d : Nat → Int) (L : List (Int × Int)) : List Int := (tcL s l d L).map fun (x : Nat) => (x : Int)
theorem tcZ_len (s : Int) (l : List (Int × Int)) (d : Nat → Int) (L : List (Int × Int)) : (tcZ s l d L).length ≤ 1048576 := by
  unfold tcZ
  rw [List.length_map]
  exact tcL_len s l d L
end Go.Proofs.YtmmninlnpnhboaaGreatDoor
