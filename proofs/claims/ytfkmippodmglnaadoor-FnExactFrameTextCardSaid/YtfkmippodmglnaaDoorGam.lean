import Derived.Test.YtfkmippodmglnaaDoorGac
import Derived.Test.YtfkmippodmglnaaDoorSlZ
import Derived.Test.YtfkmippodmglnaaDoorPnm
namespace Go.Proofs.YtfkmippodmglnaaDoor
open Go.RowKit
set_option maxRecDepth 20000 in
/-- what joins the texts of a row of the call's own -/
theorem joined_any {X : Nat → ByteArray} {s : UInt8} {n base : Nat} {A : Option Addr} {c : Nat} {w : World} (hown : w.ownsRow base 9 1 (.slice A n c) n (strs (txP X n))) (hn : n ≤ 140737488355328) (hlen : (txJ X s n).length ≤ 140737488355328) :
    Calls Tryd.prog 32 #[.slice A n c, .string ⟨#[s]⟩] w fun e w' => e = .returned (.string ⟨(txJ X s n).toArray⟩) ∧ Below w.heap.size w w' := by
  by_cases h0 : n = 0
  · subst h0
    exact (Tryd.strings_Join_none A c ⟨#[s]⟩ w).mono fun e w' ⟨h1, h2⟩ => ⟨h1, by rw [h2]; exact Below.refl _ _⟩
  · obtain ⟨b, rfl, hb, hc, hcl⟩ := own_strs hown h0
    have hl := txP_len X n
    have K := Tryd.strings_Join b 0 c (txP X n) ⟨#[s]⟩ w hcl hb (by omega) (by omega) hlen
    rw [hl] at K
    exact K
theorem PowW.keep {w w' : World} (h : PowW w) (hb : Below w.heap.size w w') : PowW w' := h.below hb
theorem formatInt_any (n : Int) (w : World) (h0 : -9223372036854775808 ≤ n) (h1 : n ≤ 9223372036854775807) (hT : PowW w) :
    Calls Tryd.prog 44 #[.int .i64 n, .int .i64 10] w fun e w' => e = .returned (.string ⟨(Lib.itoa n).toArray⟩) ∧ Below w.heap.size w w' :=
  (Tryd.strconv_FormatInt_10 n h0 h1 w hT).mono fun e w' ⟨he, k, os, hw⟩ => ⟨he, by rw [hw]; exact below_growS (below_drewN (Below.refl w.heap.size w) k) (below_drewN (Below.refl w.heap.size w) k).size os⟩
theorem itoa_any (n : Int) (w : World) (h0 : -9223372036854775808 ≤ n) (h1 : n ≤ 9223372036854775807) (hT : PowW w) :
    Calls Tryd.prog 58 #[.int .i64 n] w fun e w' => e = .returned (.string ⟨(Lib.itoa n).toArray⟩) ∧ Below w.heap.size w w' :=
  (Tryd.strconv_Itoa n h0 h1 w hT).mono fun e w' ⟨he, k, os, hw⟩ => ⟨he, by rw [hw]; exact below_growS (below_drewN (Below.refl w.heap.size w) k) (below_drewN (Below.refl w.heap.size w) k).size os⟩
end Go.Proofs.YtfkmippodmglnaaDoor
namespace Go.Proofs.YtfkmippodmglnaaDoor
open Go.RowKit
/-- the table of powers of ten and the names of the half steps lie as they are laid -/
abbrev PsW (w : World) : Prop := PowW w ∧ StpW w
theorem PsW.keep {w w' : World} (h : PsW w) (hb : Below w.heap.size w w') : PsW w' := ⟨h.1.below hb, h.2.below hb⟩
end Go.Proofs.YtfkmippodmglnaaDoor
