import Derived.Test.YtfoofggaieniaaaDoorCgs
import Derived.Test.YtfoofggaieniaaaDoorDcm
import Derived.Test.YtfoofggaieniaaaDoorSlW
import Derived.BigQuiet
namespace Go.Proofs.YtfoofggaieniaaaDoor
open Go.RowKit
/-- the text of a change -/
def cxL (a p : Nat) (q : Bool) : List UInt8 := (if q then 43 else 45) :: (Lib.decDigits a ++ 47 :: Lib.decDigits p)
theorem dec_len2 {n : Nat} (h : n < 100) : (Lib.decDigits n).length ≤ 2 := by
  by_cases h1 : n < 10
  · rw [dec_small h1]; simp
  · rw [dec_big h1, dec_small (show n / 10 < 10 by omega)]; simp
theorem cxL_cat (a p : Nat) (q : Bool) : (⟨#[if q then 43 else 45]⟩ ++ ⟨(Lib.decDigits a).toArray⟩ ++ ⟨#[47]⟩ ++ ⟨(Lib.decDigits p).toArray⟩ : ByteArray) = ⟨(cxL a p q).toArray⟩ := by
  apply ByteArray.ext
  simp [ByteArray.data_append, cxL]
theorem below_drewN {B : Nat} {w w' : World} (h : Below B w w') (n : Nat) : Below B w (w'.drewN n) := by
  induction n with
  | zero => exact h
  | succ n ih => exact ih.drew
set_option maxRecDepth 20000 in
set_option maxHeartbeats 2000000 in
theorem changeText_any (a p : Nat) (q : Bool) (w : World) (ha : a < 100) (hp : p < 100) :
    Calls Tryd.prog 13 #[.agg #[.int .i16 a, .int .i8 p, .bool q]] w fun e w' => e = .returned (.string ⟨(cxL a p q).toArray⟩) ∧ Below w.heap.size w w' := by
  have KA := fun W => Tryd.strconv_FormatInt_10_small a ha W
  have KP := fun W => Tryd.strconv_FormatInt_10_small p hp W
  have hb0 : Below w.heap.size w (w.alloc (.cells #[.int .i16 (a : Int), .int .i8 (p : Int), .bool q] 33)) := (Below.refl _ _).alloc (Nat.le_refl _) _
  have l1 := dec_len2 ha
  have l2 := dec_len2 hp
  cases q
  all_goals
    go_enter Tryd.func13, Tryd.ntmps13
    go_upto_region 4 with fail
    go_quiet (first | (go_at_call 19; exact Calls.quiet_of_same (KA _)) | (go_at_call 19; exact Calls.quiet_of_same (KP _)))
    go_wp2
    go_ret
    refine ⟨?_, below_drewN hb0 _⟩
    rw [← cxL_cat]
    rfl
end Go.Proofs.YtfoofggaieniaaaDoor
