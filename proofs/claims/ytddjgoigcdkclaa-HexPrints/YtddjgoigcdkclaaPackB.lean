/- The law HexPrints. -/
import Derived.Test.YtddjgoigcdkclaaPackA
import Derived.ProofKit
import Derived.OpenShut
import Derived.ShutString
import Derived.ChangeOld
import Derived.Lib.SmallJoins
import Derived.SizedLaws
namespace Go.Proofs.Ytddjgoigcdkclaa
open Go.RowKit
/-- A slice that turns to the string T, now and later. -/
def Cv (T : ByteArray) (v : Value) (w : World) : Prop := ∀ W, Below w.heap.size w W → (convert 22 9 v).run Try.prog W = .ok (.string T) W
def bl (l : List UInt8) (m : Nat) : List UInt8 := (List.range m).map fun j => UInt8.ofNat (bx l j).toNat
theorem bl_length (l : List UInt8) (m : Nat) : (bl l m).length = m := by simp [bl]
theorem cv_nil (w : World) : Cv ⟨#[]⟩ (.slice none 0 0) w := fun W _ => by
  rw [run_convert_bytes_string W 22 9 5 none 0 0 Try.underlying22 Try.underlying5 Try.underlying9]
  rfl
theorem bx_at (l : List UInt8) (m j : Nat) (hG : Gd l m) (hj : j < m) : ((UInt8.ofNat (bx l j).toNat).toNat : Int) = bx l j := by
  have h := hG j hj
  have h1 := dx_le l (2 + 2 * j)
  have h2 := dx_le l (2 + 2 * j + 1)
  have hb : bx l j = 16 * dx l (2 + 2 * j) + dx l (2 + 2 * j + 1) := rfl
  rw [UInt8.toNat_ofNat']
  omega
theorem cv_row {base : Nat} {l : List UInt8} {m : Nat} {v : Value} {w : World} (h : w.ownsRow base 5 1 v m (bxs l m)) (hG : Gd l m) : Cv ⟨(bl l m).toArray⟩ v w := fun W hb => by
  have h2 := ownb h hb
  rcases h2.2 with ⟨h3, h4⟩ | ⟨g, cap, cur, h3, _⟩
  · subst h4
    rw [h3]
    exact cv_nil w W hb
  · subst h3
    have k := run_convert_bytes_back (P := Try.prog) W 22 9 5 ⟨g, 0, none⟩ cap (bl l m) Try.underlying22 Try.underlying5 Try.underlying9 (fun j hj => by
      rw [bl_length] at hj
      have ea : (⟨g, 0, none⟩ : Addr).add j = ⟨g, j, none⟩ := by unfold Addr.add; split <;> simp_all
      rw [ea, h2.cellAt j (by omega)]
      have e := bx_at l m j hG hj
      simp only [bl, List.getElem_map, List.getElem_range]
      rw [e]
      simp [bxs, hj])
    rwa [bl_length] at k
theorem both (l : List UInt8) (hn : Hid (l.length ≤ 1048576)) : ∃ (T : ByteArray) (c : Int), (∀ w : World, Calls Try.prog 4 #[.string ⟨l.toArray⟩] w fun e w' => ∃ v, e = .returned (.tuple #[v, .int .i64 c]) ∧ Cv T v w' ∧ Below w.heap.size w w') ∧ (∀ w : World, Calls Try.prog 5 #[.string ⟨l.toArray⟩] w fun e w' => ∃ v, e = .returned (.tuple #[v, .int .i64 c]) ∧ Cv T v w' ∧ Below w.heap.size w w') := by
  by_cases hb : l.length < 2 ∨ l.take 2 ≠ [48, 120] ∨ l.length % 2 = 1
  · refine ⟨⟨#[]⟩, 1, fun w => (parse_form l hb w).mono fun e w' he => ?_, fun w => (xparse_form l hb w).mono fun e w' he => ?_⟩ <;>
      exact ⟨_, he.1, cv_nil _, by rw [he.2]; exact Below.refl _ _⟩
  · have hp : l.take 2 = [48, 120] := by
      by_cases h : l.take 2 = [48, 120]
      · exact h
      · exact absurd (.inr (.inl h)) hb
    obtain ⟨m, hm⟩ : ∃ m, l.length = 2 + 2 * m := ⟨(l.length - 2) / 2, by omega⟩
    by_cases hG : Gd l m
    · refine ⟨⟨(bl l m).toArray⟩, 0, fun w => (parse_any l m hm hp hn w).mono fun e w' he => ?_, fun w => (xparse_any l m hm hp hn w).mono fun e w' he => ?_⟩
      all_goals
        obtain ⟨⟨_, v, rfl, ho⟩ | ⟨h, _⟩, hbel⟩ := he
        · exact ⟨v, rfl, cv_row ho hG, hbel⟩
        · exact absurd hG h
    · refine ⟨⟨#[]⟩, 1, fun w => (parse_any l m hm hp hn w).mono fun e w' he => ?_, fun w => (xparse_any l m hm hp hn w).mono fun e w' he => ?_⟩
      all_goals
        obtain ⟨⟨h, _⟩ | ⟨_, rfl⟩, hbel⟩ := he
        · exact absurd h hG
        · exact ⟨_, rfl, cv_nil _, hbel⟩
theorem prints (b : List UInt8) (ao : Option Addr) (cap : Nat) (hcap : b.length ≤ cap) (hn : Hid (b.length ≤ 1048576)) : ∃ S : ByteArray, (∀ w : World, Sp.Vw b ao w → Calls Try.prog 6 #[.slice ao b.length cap] w fun e w' => e = .returned (.string S) ∧ Below w.heap.size w w') ∧ (∀ w : World, Sp.Vw b ao w → Calls Try.prog 7 #[.slice ao b.length cap] w fun e w' => e = .returned (.string S) ∧ Below w.heap.size w w') := by
  by_cases h0 : b.length = 0
  · rw [h0]
    exact ⟨⟨#[48, 120]⟩, fun w _ => print_none ao cap w, fun w _ => xprint_none ao cap w⟩
  · have hf : ∀ j, (Sp.bz b j).toNat < 256 := fun j => by have := Sp.bz_lt b j; omega
    have hcs : ∀ j, ((Sp.bz b j).toNat : Int) = Sp.bz b j := fun j => Int.toNat_of_nonneg (Sp.bz_nn b j)
    refine ⟨⟨(48 :: 120 :: hexs (fun j => (Sp.bz b j).toNat) b.length).toArray⟩, fun w vw => ?_, fun w vw => ?_⟩
    · obtain ⟨g, off, rfl, hg, hc⟩ := vw (by omega)
      exact print_any _ hf b.length g off cap hn hcap w hg (fun j hj => by rw [hcs]; exact hc j hj)
    · obtain ⟨g, off, rfl, hg, hc⟩ := vw (by omega)
      exact xprint_any _ hf b.length g off cap hn hcap w hg (fun j hj => by rw [hcs]; exact hc j hj)
set_option maxHeartbeats 400000 in
set_option maxRecDepth 100000 in
theorem law_hex (b l : List UInt8) (ao : Option Addr) (cap : Nat) (hcap : b.length ≤ cap) (hb : Hid (b.length ≤ 1048576)) (hl : Hid (l.length ≤ 1048576)) (w : World) (vw : Sp.Vw b ao w) :
    Calls Try.prog 3 #[.slice ao b.length cap, .string ⟨l.toArray⟩] w fun e w' => e = .returned (.bool true) ∧ Below w.heap.size w w' := by
  obtain ⟨T, c, KA, KB⟩ := both l hl
  obtain ⟨S, KC, KD⟩ := prints b ao cap hcap hb
  generalize (⟨l.toArray⟩ : ByteArray) = L at *
  have K1 : Hid _ := KA
  have K2 : Hid _ := KB
  have K3 : Hid _ := KC
  have K4 : Hid _ := KD
  have HV : Hid (Sp.Vw b ao w) := vw
  clear KA KB KC KD vw hcap hb hl
  go_enter Try.func3, Try.ntmps3
  go_wp2_with fail
  refine (K1.out _).mono (fun e w2 he => ?_)
  obtain ⟨v1, rfl, c1, b1⟩ := he
  go_wp2_with fail
  refine (K2.out _).mono (fun e w3 he => ?_)
  obtain ⟨v2, rfl, c2, b2⟩ := he
  go_wp2_with fail
  have bb3 : Below w.heap.size w w3 := b1.trans (b2.mono b1.size)
  refine (K3.out _ (Sp.Vw_below HV.out bb3)).mono (fun e w4 he => ?_)
  obtain ⟨rfl, b3⟩ := he
  have bb4 : Below w.heap.size w w4 := bb3.trans (b3.mono bb3.size)
  go_wp2_with fail
  refine (K4.out _ (Sp.Vw_below HV.out bb4)).mono (fun e w5 he => ?_)
  obtain ⟨rfl, b4⟩ := he
  have bb5 : Below w.heap.size w w5 := bb4.trans (b4.mono bb4.size)
  have b45 : Below w3.heap.size w3 w5 := b3.trans (b4.mono b3.size)
  have h1 := c1 w5 (b2.trans (b45.mono b2.size))
  have h2 := c2 w5 b45
  clear c1 c2 b1 b2 b3 b4 b45 bb3 bb4 HV K1 K2 K3 K4
  go_wp2
  go_ret
  exact ⟨rfl, bb5⟩
end Go.Proofs.Ytddjgoigcdkclaa
/- Bytes that came in. -/
namespace Go.Proofs.Ytddjgoigcdkclaa
namespace Sp
open Go.ChangeShapes Go.WideShapes Go.ChangeAt Go.RowKit Go.Joins
theorem ownK : ownKnob Try.prog.godebug = none := by kernel_rfl
theorem laidOutK : laidOutB Try.prog = true := by kernel_rfl
theorem cellsU8 : Try.prog.cellsOf 5 = 1 := by kernel_rfl
theorem bytesU8 : Try.prog.bytesOf 5 = 1 := by kernel_rfl
/-- Numbers as bytes. -/
def ub (zs : List Int) : List UInt8 := zs.map fun z => UInt8.ofNat z.toNat
theorem ub_length (zs : List Int) : (ub zs).length = zs.length := by simp [ub]
theorem ub_bz (zs : List Int) (hz : ∀ z ∈ zs, 0 ≤ z ∧ z < 256) (j : Nat) (h : j < zs.length) : bz (ub zs) j = zs.getD j 0 := by
  have hm := hz zs[j] (List.getElem_mem h)
  have h2 : j < (ub zs).length := by rw [ub_length]; exact h
  unfold bz
  rw [List.getD_eq_getElem?_getD, List.getD_eq_getElem?_getD, List.getElem?_eq_getElem h2, List.getElem?_eq_getElem h]
  simp only [Option.getD_some, ub, List.getElem_map, UInt8.toNat_ofNat']
  omega
theorem open_bytes {H : Type} {enc : TypeId × Value → H} {W : World} {r : Reach} {b0 : Nat} {v : Value} {d : DataW H} {p : List MemPlace}
    (hv : Value.okWide Try.prog W r b0 22 v) (h : DataW.Trod enc Try.prog W 0 (fun _ => true) true 22 v d p) :
    ∃ (l : List UInt8) (ao : Option Addr) (cap : Nat), v = .slice ao l.length cap ∧ l.length ≤ cap ∧ Vw l ao W ∧ (l = [] ∨ ∃ elems spare, d = .slice elems spare ∧ elems.length = l.length) := by
  obtain ⟨a0, len, cap, rfl⟩ := okWide_slice Try.underlying22 hv
  obtain ⟨fuel, hf⟩ := h
  rcases open_ints Try.underlying22 Try.underlying5 cellsU8 hf with ⟨hcs, hx⟩ | ⟨a, len', cap', zs, hcs, _, hl, hm, hz, hx, hcell, hwz⟩
  · simp [Value.cells] at hcs
    obtain ⟨rfl, rfl, rfl⟩ := hcs
    exact ⟨[], none, 0, rfl, Nat.le_refl _, Vw_nil _ _, .inl rfl⟩
  · simp [Value.cells] at hcs
    obtain ⟨rfl, rfl, rfl⟩ := hcs
    simp only [if_true] at hz
    have hb : ∀ z ∈ zs, 0 ≤ z ∧ z < 256 := fun z hz' => by have := bounds_u8 (hwz z hz'); omega
    have hb' : ∀ z ∈ zs.take len, 0 ≤ z ∧ z < 256 := fun z hz' => hb z (List.mem_of_mem_take hz')
    have hlt : (ub (zs.take len)).length = len := by rw [ub_length, List.length_take]; omega
    simp only [Prod.mk.injEq] at hx
    refine ⟨ub (zs.take len), some a, cap, by rw [hlt], by rw [hlt]; exact hl, ?_, .inr ⟨_, _, hx.1, by simp [lits, hlt]; omega⟩⟩
    intro h0
    rw [hlt] at h0
    obtain ⟨b, off, rfl, hc⟩ := ints_at hcell (by omega)
    refine ⟨b, off, rfl, ?_, fun j hj => ?_⟩
    · exact World.block_lt_of_cell? W ⟨b, off + 0, none⟩ (hc 0 (by omega))
    · rw [hlt] at hj
      rw [hc j (by omega), ub_bz _ hb' j (by rw [List.length_take]; omega)]
      simp [List.getD_eq_getElem?_getD, hj]
end Sp
end Go.Proofs.Ytddjgoigcdkclaa
