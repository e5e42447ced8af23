import Derived.Test.YtnmfkgapiccjmaaDoorCon
import Derived.Laws.IdiomStrings
namespace Go.Proofs.YtnmfkgapiccjmaaDoor
open Go.RowKit

/-- the names of the half steps -/
def hsT : List (List UInt8) := [[99], [99, 35], [100], [100, 35], [101], [102], [102, 35], [103], [103, 35], [97], [97, 35], [98]]
def hsB (j : Nat) : ByteArray := ⟨(hsT.getD j []).toArray⟩
def ocB (q : Nat) : ByteArray := ⟨#[UInt8.ofNat (48 + q)]⟩
def pnV (x : Int) : ByteArray := if inB x 0 47 = true then hsB (x.toNat % 12) ++ ocB (x.toNat / 12) else ⟨#[]⟩
def StpW (w : World) : Prop := ∀ j, j < 12 → w.cell? ⟨1, j, none⟩ = some (.string (hsB j))

set_option maxRecDepth 20000 in
set_option maxHeartbeats 2000000 in
theorem fmt_any (x : Int) (hx : x = 0 ∨ x = 1 ∨ x = 2 ∨ x = 3) (w : World) :
    Calls Tryd.prog 12 #[.int .i64 x, .int .i64 10] w fun e w' => e = .returned (.string (ocB x.toNat)) ∧ w = w' := by
  have KS : ∀ W, Calls Tryd.prog 15 #[.int .i64 x] W fun e w' => e = .returned (.string (ocB x.toNat)) ∧ W = w' := fun W => by
    go_enter Tryd.func15, Tryd.ntmps15
    rcases hx with rfl | rfl | rfl | rfl
    all_goals
      go_wp2
      go_ret
      exact ⟨rfl, rfl⟩
  have KF : ∀ W, Calls Tryd.prog 14 #[.int .i64 x, .int .i64 10] W fun e w' => e = .returned (.string (ocB x.toNat)) ∧ W = w' := fun W => by
    go_enter Tryd.func14, Tryd.ntmps14
    rcases hx with rfl | rfl | rfl | rfl
    all_goals
      go_wp2_with (go_at_call 15; refine (KS _).mono ?_; rintro e w' ⟨rfl, rfl⟩)
      go_ret
      exact ⟨rfl, rfl⟩
  go_enter Tryd.func12, Tryd.ntmps12
  go_wp2_with (go_at_call 14; refine (KF _).mono ?_; rintro e w' ⟨rfl, rfl⟩)
  go_ret
  exact ⟨rfl, rfl⟩

theorem back1 (w : World) (b : UInt8) : (convert 29 9 (.slice (some ⟨w.heap.size, 0, none⟩) 1 1)).run Tryd.prog (w.alloc (.cells #[.int .u8 (b.toNat : Int)] 5)) = .ok (.string ⟨#[b]⟩) (w.alloc (.cells #[.int .u8 (b.toNat : Int)] 5)) :=
  run_convert_bytes_back _ 29 9 5 ⟨w.heap.size, 0, none⟩ 1 [b] Tryd.underlying29 Tryd.underlying5 Tryd.underlying9 (fun j hj => by
    obtain rfl : j = 0 := by simpa using hj
    rw [Addr.add_mid, cell_of_row _ _ _ _ _ _ (heap_alloc_new _ _)]
    rfl)
set_option maxRecDepth 20000 in
set_option maxHeartbeats 2000000 in
theorem dec_any (x : Int) (hx : x = 0 ∨ x = 1 ∨ x = 2 ∨ x = 3) (w : World) :
    Calls Tryd.prog 13 #[.int .i64 x] w fun e w' => e = .returned (.string (ocB x.toNat)) ∧ Below w.heap.size w w' := by
  have b0 : (convert 29 9 (.slice (some ⟨w.heap.size, 0, none⟩) 1 1)).run Tryd.prog (w.alloc (.cells #[.int .u8 48] 5)) = .ok (.string ⟨#[48]⟩) (w.alloc (.cells #[.int .u8 48] 5)) := back1 w 48
  have b1 : (convert 29 9 (.slice (some ⟨w.heap.size, 0, none⟩) 1 1)).run Tryd.prog (w.alloc (.cells #[.int .u8 49] 5)) = .ok (.string ⟨#[49]⟩) (w.alloc (.cells #[.int .u8 49] 5)) := back1 w 49
  have b2 : (convert 29 9 (.slice (some ⟨w.heap.size, 0, none⟩) 1 1)).run Tryd.prog (w.alloc (.cells #[.int .u8 50] 5)) = .ok (.string ⟨#[50]⟩) (w.alloc (.cells #[.int .u8 50] 5)) := back1 w 50
  have b3 : (convert 29 9 (.slice (some ⟨w.heap.size, 0, none⟩) 1 1)).run Tryd.prog (w.alloc (.cells #[.int .u8 51] 5)) = .ok (.string ⟨#[51]⟩) (w.alloc (.cells #[.int .u8 51] 5)) := back1 w 51
  go_enter Tryd.func13, Tryd.ntmps13
  rcases hx with rfl | rfl | rfl | rfl
  all_goals
    go_wp2
    go_ret
    exact ⟨rfl, (Below.refl _ _).alloc (Nat.le_refl _) _⟩
end Go.Proofs.YtnmfkgapiccjmaaDoor
