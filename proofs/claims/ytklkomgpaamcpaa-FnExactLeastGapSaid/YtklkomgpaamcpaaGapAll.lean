import Derived.Test.YtklkomgpaamcpaaGapSpec
import Derived.Test.YtklkomgpaamcpaaGapImpl
namespace Go.Proofs.Ytklkomgpaamcpaa
open Go.RowKit

theorem specLeastGap_any (A : Option Addr) (c : Nat) (l : List (Int × Int)) (g p cc : Int) (w : World) (hA : NA w A l) (hn : l.length ≤ 1048576) (hwf : WF l) (hG : GapIs l g p cc) :
    Calls Try.prog 28 #[.slice A l.length c] w (Trip (.int .i64 g) (.int .i8 p) (.int .i64 cc) w) := by
  cases hok : okB l
  · have HOK := hide hok
    obtain ⟨rfl, rfl, rfl⟩ := gap_no hG hok
    clear hok hG
    go_enter Try.func28, Try.ntmps28
    go_wp2_with fail
    refine (l01Ok_any A c l _ hA hn hwf).mono ?_
    rintro e w' ⟨rfl, hb⟩
    rw [HOK.out]
    go_wp2
    go_ret3
    exact ⟨rfl, hb⟩
  · exact specGap_yes A c l g p cc w hA hn hwf hok hG

theorem implLeastGap_any (A : Option Addr) (c : Nat) (l : List (Int × Int)) (g p cc : Int) (w : World) (hA : NA w A l) (hn : l.length ≤ 1048576) (hwf : WF l) (hG : GapIs l g p cc) :
    Calls Try.prog 29 #[.slice A l.length c] w (Trip (.int .i64 g) (.int .i8 p) (.int .i64 cc) w) := by
  cases hok : okB l
  · have HOK := hide hok
    obtain ⟨rfl, rfl, rfl⟩ := gap_no hG hok
    clear hok hG
    go_enter Try.func29, Try.ntmps29
    go_wp2_with fail
    refine (implValid_any A c l _ hA hn hwf).mono ?_
    rintro e w' ⟨rfl, hb⟩
    rw [HOK.out]
    go_wp2
    go_ret3
    exact ⟨rfl, hb⟩
  · exact implGap_yes A c l g p cc w hA hn hwf hok hG
end Go.Proofs.Ytklkomgpaamcpaa
