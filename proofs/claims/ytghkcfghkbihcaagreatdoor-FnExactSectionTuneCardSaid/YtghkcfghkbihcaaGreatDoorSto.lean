import Derived.Test.YtghkcfghkbihcaaGreatDoorSca
namespace Go.Proofs.YtghkcfghkbihcaaGreatDoor
open Go.RowKit

theorem quiet_load_v {P : Program} {o : Oper} {a : Act} {C : World → Prop} {K : Act → Prop} (ty : TypeId) (x : Operand) (ho : o.op = .load ty x) (p : Value) (hx : a.eval x = p) (v : Value)
    (hl : ∀ w, C w → (Instr.loadAt ty p).run P w = .ok v w) (h : K (a.put o.dst v)) : o.quiet P a C K :=
  ⟨v, fun w hw => by
    unfold Oper.quietAt execOp
    simp only [ho, hx, Sem.run_bind, hl w hw, Result.andThen_ok, Sem.run_pure]
    exact ⟨rfl, rfl⟩, h⟩
theorem Bk.plLater {w : World} {g : Nat} {t : TypeId} {s : Int} {A : Option Addr} {n c : Nat} {B : Option Addr} {m d : Nat} {o : Nat → Int} (h : Bk w g t (plA s A n c B m d o)) (p : Later w) :
    (Instr.loadAt 76 (.pointer (some ⟨g, 0, none⟩))).run Tryz.prog p.w = .ok (.agg (plA s A n c B m d o)) p.w :=
  run_loadAt_mid p.w g 0 _ (plL s A n c B m d o) _ (h.keep p.h).plRange Tryz.underlying76 rfl (by rw [plInfo (s := s) (A := A) (n := n) (c := c) (B := B) (m := m) (d := d) (o := o), plA_size, plL_length])
def stC (s : Int) (l m : List (Int × Int)) (o : Nat → Int) (a x : Int) : Int := if prgB s l m o then (if inB a 0 (s - 1) && inB x 0 ((m.length : Int) - 1) then 0 else 2) else 1
def stV (s : Int) (l m : List (Int × Int)) (o : Nat → Int) (a x : Int) : Int := if stC s l m o a x = 0 then arI s (secF m x.toNat - a) else 0
end Go.Proofs.YtghkcfghkbihcaaGreatDoor
