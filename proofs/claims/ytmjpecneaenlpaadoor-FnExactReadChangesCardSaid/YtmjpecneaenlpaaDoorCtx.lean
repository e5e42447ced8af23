import Derived.Test.YtmjpecneaenlpaaDoorCgs
import Derived.Test.YtmjpecneaenlpaaDoorDcm
import Derived.Test.YtmjpecneaenlpaaDoorGag
import Derived.Test.YtmjpecneaenlpaaDoorSlZ
import Derived.BigQuiet
namespace Go.Proofs.YtmjpecneaenlpaaDoor
open Go.RowKit
/-- the text of a change -/
def cxL (a p : Nat) (q : Bool) : List UInt8 := (if q then 43 else 45) :: (Lib.decDigits a ++ 47 :: Lib.decDigits p)
theorem cxL_cat (a p : Nat) (q : Bool) : (⟨#[if q then 43 else 45]⟩ ++ ⟨(Lib.decDigits a).toArray⟩ ++ ⟨#[47]⟩ ++ ⟨(Lib.decDigits p).toArray⟩ : ByteArray) = ⟨(cxL a p q).toArray⟩ := by
  apply ByteArray.ext
  simp [ByteArray.data_append, cxL]
set_option maxRecDepth 20000 in
set_option maxHeartbeats 2000000 in
theorem changeText_any (a p : Nat) (q : Bool) (w : World) (ha : a < 100) (hp : p < 100) :
    Calls Tryd.prog 73 #[.agg #[.int .i16 a, .int .i8 p, .bool q]] w fun e w' => e = .returned (.string ⟨(cxL a p q).toArray⟩) ∧ Below w.heap.size w w' := by
  have KA := fun W => Tryd.strconv_FormatInt_10_small a ha W
  have KP := fun W => Tryd.strconv_FormatInt_10_small p hp W
  have hb0 : Below w.heap.size w (w.alloc (.cells #[.int .i16 (a : Int), .int .i8 (p : Int), .bool q] 84)) := (Below.refl _ _).alloc (Nat.le_refl _) _
  have l1 := dec_len2 ha
  have l2 := dec_len2 hp
  cases q
  all_goals
    go_enter Tryd.func73, Tryd.ntmps73
    go_upto_region 4 with fail
    go_quiet (first | (go_at_call 58; exact Calls.quiet_of_same (KA _)) | (go_at_call 58; exact Calls.quiet_of_same (KP _)))
    go_wp2
    go_ret
    refine ⟨?_, below_drewN hb0 _⟩
    rw [← cxL_cat]
    rfl
end Go.Proofs.YtmjpecneaenlpaaDoor
