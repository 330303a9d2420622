/- A state that came in: eight parts of 64 bits. -/
import Derived.Test.YtjikibeacbkkjaaSpLawMixes
import Derived.ProofKit
import Derived.OpenShut
import Derived.ShutString
import Derived.ChangeOld
import Derived.Lib.SmallJoins
namespace Go.Proofs.Ytjikibeacbkkjaa
namespace Sp
open Go.ChangeShapes Go.WideShapes Go.ChangeAt Go.RowKit Go.Joins
theorem own : ownKnob Try.prog.godebug = none := by kernel_rfl
theorem laidOut : laidOutB Try.prog = true := by kernel_rfl
theorem cellsState : Try.prog.cellsOf 24 = 8 := by kernel_rfl
theorem array8 {α : Type} {cs : Array α} (h : cs.size = 8) : ∃ c0 c1 c2 c3 c4 c5 c6 c7, cs = #[c0, c1, c2, c3, c4, c5, c6, c7] := by
  obtain ⟨l⟩ := cs
  match l, h with
  | [c0, c1, c2, c3, c4, c5, c6, c7], _ => exact ⟨c0, c1, c2, c3, c4, c5, c6, c7, rfl⟩
theorem okWide_array {P : Program} {w : World} {r : Reach} {base : Nat} {t e : TypeId} {n : Nat} {v : Value} (ht : P.underlying t = some (.array n e)) (h : Value.okWide P w r base t v) : ∃ cs, v = .agg cs ∧ cs.size = P.cellsOf t := by
  simp only [Value.okWide, ht] at h
  obtain ⟨cs, h1, h2, _⟩ := h
  exact ⟨cs, h1, h2⟩
/-- The numbers of eight parts. -/
def F8 (a0 a1 a2 a3 a4 a5 a6 a7 : Int) (o : Nat) : Int := if o = 0 then a0 else if o = 1 then a1 else if o = 2 then a2 else if o = 3 then a3 else if o = 4 then a4 else if o = 5 then a5 else if o = 6 then a6 else if o = 7 then a7 else 0
theorem UF_F8 {a0 a1 a2 a3 a4 a5 a6 a7 : Int} (h0 : U a0) (h1 : U a1) (h2 : U a2) (h3 : U a3) (h4 : U a4) (h5 : U a5) (h6 : U a6) (h7 : U a7) : UF (F8 a0 a1 a2 a3 a4 a5 a6 a7) := fun o => by
  unfold F8
  repeat' split
  all_goals first | assumption | exact ⟨by decide, by decide⟩
theorem open_state {H : Type} {enc : TypeId × Value → H} {W : World} {r : Reach} {b0 base : Nat} {spare : Nat → Bool} {held : Bool} {v : Value} {d : DataW H} {p : List MemPlace}
    (hv : Value.okWide Try.prog W r b0 24 v) (h : DataW.Trod enc Try.prog W base spare held 24 v d p) : ∃ F : Nat → Int, UF F ∧ v = Sv F := by
  obtain ⟨cs, rfl, hsz⟩ := okWide_array Try.underlying24 hv
  obtain ⟨c0, c1, c2, c3, c4, c5, c6, c7, rfl⟩ := array8 (hsz.trans cellsState)
  obtain ⟨fuel, hf⟩ := h
  obtain ⟨xs, m, _, _, _, hl, hi⟩ := DataW.trod_array Try.underlying24 (by simpa [Value.cells] using hf)
  rw [cellsU64] at hi
  have g : ∀ i c, i < 8 → ([c0, c1, c2, c3, c4, c5, c6, c7].drop (i * 1)).take 1 = [c] → ∃ a, U a ∧ c = .int .u64 a := by
    intro i c h8 hc
    have hx := hi i h8
    rw [hc, List.getElem?_eq_getElem (by omega)] at hx
    obtain ⟨a, e0, _, wa⟩ := DataW.trod_int Try.underlying22 hx
    have := bounds_u64 wa
    simp at e0
    exact ⟨a, ⟨by omega, by omega⟩, e0⟩
  obtain ⟨a0, u0, rfl⟩ := g 0 c0 (by decide) rfl
  obtain ⟨a1, u1, rfl⟩ := g 1 c1 (by decide) rfl
  obtain ⟨a2, u2, rfl⟩ := g 2 c2 (by decide) rfl
  obtain ⟨a3, u3, rfl⟩ := g 3 c3 (by decide) rfl
  obtain ⟨a4, u4, rfl⟩ := g 4 c4 (by decide) rfl
  obtain ⟨a5, u5, rfl⟩ := g 5 c5 (by decide) rfl
  obtain ⟨a6, u6, rfl⟩ := g 6 c6 (by decide) rfl
  obtain ⟨a7, u7, rfl⟩ := g 7 c7 (by decide) rfl
  exact ⟨F8 a0 a1 a2 a3 a4 a5 a6 a7, UF_F8 u0 u1 u2 u3 u4 u5 u6 u7, rfl⟩
end Sp
end Go.Proofs.Ytjikibeacbkkjaa
