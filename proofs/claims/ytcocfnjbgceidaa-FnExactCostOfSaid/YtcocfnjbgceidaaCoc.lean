import Derived.Test.YtcocfnjbgceidaaAch
import Derived.IntWalk
namespace Go.Proofs.Ytcocfnjbgceidaa
open Go.RowKit
set_option maxHeartbeats 1000000 in
theorem costOf1_any (a o s : Int) (xa : Bool) (xl xo xt : Int) (w : World) (hc : coB a o s = true) (hx : xcB xa xl xo xt = true) :
    Calls Try.prog 60 #[.agg #[.int .i16 a, .int .i16 o, .int .i16 s], .agg #[.bool xa, .int .i8 xl, .int .i8 xo, .int .i8 xt]] w fun e w' => e = .returned (.int .i64 (coX a o s xa xl xo)) ∧ Below w.heap.size w w' := by
  have hb0 : Below w.heap.size w ((w.alloc (.cells #[.int .i16 a, .int .i16 o, .int .i16 s] 26)).alloc (.cells #[.bool xa, .int .i8 xl, .int .i8 xo, .int .i8 xt] 33)) := ((Below.refl _ _).alloc (Nat.le_refl _) _).alloc (by simp) _
  have hc' := hc
  simp [coB, inB] at hc'
  obtain ⟨⟨⟨h1, h2⟩, ⟨h3, h4⟩⟩, ⟨h5, h6⟩⟩ := hc'
  cases xa
  · have hx' := hx
    simp [xcB, inB] at hx'
    obtain ⟨⟨⟨h7, h8⟩, ⟨h9, h10⟩⟩, _⟩ := hx'
    obtain ⟨m, hm⟩ : ∃ m, m = max xl (-xl) := ⟨_, rfl⟩
    have m1 : 0 ≤ m ∧ m ≤ 3 := by omega
    have p1 : 0 ≤ s * m := Int.mul_nonneg h5 m1.1
    have p2 : s * m ≤ 3000 := Int.le_trans (Int.mul_le_mul h6 m1.2 m1.1 (by omega)) (by omega)
    have HX := hide (show coX a o s false xl xo = s * m + if xo = 0 then 0 else o by simp [coX, hm])
    have q1 : IntKind.i64.wrap (s * m) = s * m := IntWalk.i64_in _ (by omega)
    have q2 : IntKind.i64.wrap (s * m + o) = s * m + o := IntWalk.i64_in _ (by omega)
    have q3 : IntKind.i64.wrap (-xl) = -xl := IntWalk.i64_in _ (by omega)
    rcases Int.lt_or_le xl 0 with hl | hl
    · have e1 : -xl = m := by omega
      have e2 : max xl (-xl) = m := hm.symm
      have e3 : max xl m = m := by omega
      have HE := hide hm
      clear hm hx hc
      rw [e1] at q3
      by_cases h0 : xo = 0
      · subst h0
        go_enter Try.func60, Try.ntmps60
        go_wp2
        go_ret
        exact ⟨by rw [HX.out]; simp, hb0⟩
      · have hne : (xo != 0) = true := by simp [h0]
        go_enter Try.func60, Try.ntmps60
        go_wp2
        go_ret
        exact ⟨by rw [HX.out]; simp [h0], hb0⟩
    · have e1 : xl = m := by omega
      have e3 : max m (-m) = m := by omega
      clear hm hx hc
      subst e1
      by_cases h0 : xo = 0
      · subst h0
        go_enter Try.func60, Try.ntmps60
        go_wp2
        go_ret
        exact ⟨by rw [HX.out]; simp, hb0⟩
      · have hne : (xo != 0) = true := by simp [h0]
        go_enter Try.func60, Try.ntmps60
        go_wp2
        go_ret
        exact ⟨by rw [HX.out]; simp [h0], hb0⟩
  · have HX := hide (show coX a o s true xl xo = a by simp [coX])
    go_enter Try.func60, Try.ntmps60
    go_wp2
    go_ret
    exact ⟨ret_int HX.out.symm, hb0⟩
set_option maxHeartbeats 1000000 in
theorem l07Cost_any (a o s : Int) (xa : Bool) (xl xo xt : Int) (w : World) (hc : coB a o s = true) (hx : xcB xa xl xo xt = true) :
    Calls Try.prog 58 #[.agg #[.int .i16 a, .int .i16 o, .int .i16 s], .agg #[.bool xa, .int .i8 xl, .int .i8 xo, .int .i8 xt]] w fun e w' => e = .returned (.int .i64 (coX a o s xa xl xo)) ∧ Below w.heap.size w w' := by
  have hb0 : Below w.heap.size w ((w.alloc (.cells #[.int .i16 a, .int .i16 o, .int .i16 s] 26)).alloc (.cells #[.bool xa, .int .i8 xl, .int .i8 xo, .int .i8 xt] 33)) := ((Below.refl _ _).alloc (Nat.le_refl _) _).alloc (by simp) _
  have hc' := hc
  simp [coB, inB] at hc'
  obtain ⟨⟨⟨h1, h2⟩, ⟨h3, h4⟩⟩, ⟨h5, h6⟩⟩ := hc'
  cases xa
  · have hx' := hx
    simp [xcB, inB] at hx'
    obtain ⟨⟨⟨h7, h8⟩, ⟨h9, h10⟩⟩, _⟩ := hx'
    obtain ⟨m, hm⟩ : ∃ m, m = max xl (-xl) := ⟨_, rfl⟩
    have m1 : 0 ≤ m ∧ m ≤ 3 := by omega
    have p1 : 0 ≤ s * m := Int.mul_nonneg h5 m1.1
    have p2 : s * m ≤ 3000 := Int.le_trans (Int.mul_le_mul h6 m1.2 m1.1 (by omega)) (by omega)
    have HX := hide (show coX a o s false xl xo = s * m + if xo = 0 then 0 else o by simp [coX, hm])
    have q1 : IntKind.i64.wrap (s * m) = s * m := IntWalk.i64_in _ (by omega)
    have q2 : IntKind.i64.wrap (s * m + o) = s * m + o := IntWalk.i64_in _ (by omega)
    have q3 : IntKind.i64.wrap (-xl) = -xl := IntWalk.i64_in _ (by omega)
    rcases Int.lt_or_le xl 0 with hl | hl
    · have e1 : -xl = m := by omega
      have e2 : max xl (-xl) = m := hm.symm
      have e3 : max xl m = m := by omega
      have HE := hide hm
      clear hm hx hc
      rw [e1] at q3
      by_cases h0 : xo = 0
      · subst h0
        go_enter Try.func58, Try.ntmps58
        go_wp2
        go_ret
        exact ⟨by rw [HX.out]; simp, hb0⟩
      · have hne : (xo != 0) = true := by simp [h0]
        go_enter Try.func58, Try.ntmps58
        go_wp2
        go_ret
        exact ⟨by rw [HX.out]; simp [h0], hb0⟩
    · have e1 : xl = m := by omega
      have e3 : max m (-m) = m := by omega
      clear hm hx hc
      subst e1
      by_cases h0 : xo = 0
      · subst h0
        go_enter Try.func58, Try.ntmps58
        go_wp2
        go_ret
        exact ⟨by rw [HX.out]; simp, hb0⟩
      · have hne : (xo != 0) = true := by simp [h0]
        go_enter Try.func58, Try.ntmps58
        go_wp2
        go_ret
        exact ⟨by rw [HX.out]; simp [h0], hb0⟩
  · have HX := hide (show coX a o s true xl xo = a by simp [coX])
    go_enter Try.func58, Try.ntmps58
    go_wp2
    go_ret
    exact ⟨ret_int HX.out.symm, hb0⟩
end Go.Proofs.Ytcocfnjbgceidaa
