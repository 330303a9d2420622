/- pack's reader: list. -/
import Derived.Test.YtchmkmhdbjhhaaaDoorPackD
import Derived.Deep.MidRow
import Derived.Test.YtchmkmhdbjhhaaaDoorPackB
import Derived.Defers
import Derived.Recover
import Derived.Laws.Pointers
import Derived.Test.YtchmkmhdbjhhaaaDoorPackC
import Derived.Lib.ConvBytes
import Derived.Laws.Concat
import Derived.Lib.AppendIntMem
import Derived.ShapedOpen
namespace Go.Proofs.YtchmkmhdbjhhaaaDoor
namespace Pk
open Go.RowKit
/-- The kids behind a head that has s beside its mark, and what is behind them. -/
def rls (s : Nat) (b : List UInt8) : Option (List It × List UInt8) :=
  match rsz s b with
  | none => none
  | some (n, k) => if (b.drop k).length < n then none else (rkids ((b.drop k).take n)).map fun ks => (ks, (b.drop k).drop n)
theorem rd_new {g : Nat} {b : List UInt8} {v : Value} {w : World} (h : Sx g b v w) (ty : TypeId) : Rd w.heap.size b (w.alloc (.cells #[v] ty)) := by
  have hn := heap_alloc_new w (.cells #[v] ty)
  have hb : Below w.heap.size w (w.alloc (.cells #[v] ty)) := (Below.refl _ _).alloc (Nat.le_refl _) _
  refine ⟨by simp, fun o => by simp only [World.frozen?, hn]; simp, v, by simp only [World.cell?, hn]; simp, ?_⟩
  obtain ⟨ao, cap, h1, h2, h3, h4⟩ := h
  refine ⟨ao, cap, h1, h2, h3, fun h0 => ?_⟩
  obtain ⟨k, off, e, hne, hlt, hc⟩ := h4 h0
  exact ⟨k, off, e, hlt, Nat.lt_of_lt_of_le hlt hb.size, fun j hj => (hb.cell (p := ⟨k, off + j, none⟩) hlt).trans (hc j hj)⟩
theorem Iv_form {S : Nat → Prop} {w : World} {t : It} {v : V3} (h : Iv S w t v) : ∃ l a1 n1 c1 a2 n2 c2, v = (.bool l, .slice a1 n1 c1, .slice a2 n2 c2) := by
  cases h with
  | mk l t ks tv kv vs ht hl hk hi =>
    obtain ⟨a1, c1, rfl, _⟩ := ht
    obtain ⟨a2, c2, rfl, _⟩ := hk
    exact ⟨l, a1, _, c1, a2, _, c2, rfl⟩
theorem Rd_up {g : Nat} {b : List UInt8} {w w' : World} {r : Option Nat} (h : Rd g b w) (hb : w.grownBy w' r) (h1 : ∀ j, j ≤ g → some j ≠ r) : Rd g b w' := by
  obtain ⟨v, c1, ao, cap, e1, e2, e3, e4⟩ := h.s
  have hbk : w'.heap[g]? = w.heap[g]? := hb.block g h.hi (h1 g (Nat.le_refl _))
  refine ⟨Nat.lt_of_lt_of_le h.hi hb.size, fun o => (World.frozen?_of_block (a := ⟨g, o, none⟩) hbk).trans (h.f o), v, (World.cell?_of_block (a := ⟨g, 0, none⟩) hbk).trans c1, ao, cap, e1, e2, e3, fun h0 => ?_⟩
  obtain ⟨k, off, e, hne, hlt, hc⟩ := e4 h0
  have hbk2 : w'.heap[k]? = w.heap[k]? := hb.block k hlt (h1 k (Nat.le_of_lt hne))
  exact ⟨k, off, e, hne, Nat.lt_of_lt_of_le hlt hb.size, fun j hj => (World.cell?_of_block (a := ⟨k, off + j, none⟩) hbk2).trans (hc j hj)⟩
end Pk
end Go.Proofs.YtchmkmhdbjhhaaaDoor
/- pack's reader: item. -/
namespace Go.Proofs.YtchmkmhdbjhhaaaDoor
namespace Pk
open Go.RowKit
theorem gb_new {w a b : World} {g G : Nat} (h : w.grownBy a (some g)) (k : a.grownBy b (some G)) (hG : w.heap.size ≤ G) : w.grownBy b (some g) :=
  ⟨k.os.trans h.os, k.tape.trans h.tape, k.output.trans h.output, Nat.le_trans h.size k.size, fun j hj hne => (k.block j (Nat.lt_of_lt_of_le hj h.size) (fun e => by injection e with e; omega)).trans (h.block j hj hne)⟩
/-- A variable of an item at block G. -/
structure B3 (G : Nat) (w : World) : Prop where
  hi : G < w.heap.size
  c : ∀ o, o < 3 → (w.cell? ⟨G, o, none⟩).isSome = true
  f : ∀ o, w.frozen? ⟨G, o, none⟩ = false
theorem B3_gb {G : Nat} {w w' : World} {r : Option Nat} (h : B3 G w) (hb : w.grownBy w' r) (hr : some G ≠ r) : B3 G w' := by
  have hbk : w'.heap[G]? = w.heap[G]? := hb.block G h.hi hr
  exact ⟨Nat.lt_of_lt_of_le h.hi hb.size, fun o ho => by rw [World.cell?_of_block (a := ⟨G, o, none⟩) hbk]; exact h.c o ho, fun o => (World.frozen?_of_block (a := ⟨G, o, none⟩) hbk).trans (h.f o)⟩
theorem gb_sets (G : Nat) : ∀ (vs : List Value) (o : Nat) (w : World), w.grownBy (w.setCells G o vs) (some G)
  | [], _, w => gb_refl w _
  | v :: vs, o, w => gb_trans (gb_set w G o v) (gb_sets G vs (o + 1) (w.setCell ⟨G, o, none⟩ v))
end Pk
end Go.Proofs.YtchmkmhdbjhhaaaDoor
/- pack's reader: items at every text. -/
namespace Go.Proofs.YtchmkmhdbjhhaaaDoor
namespace Pk
open Go.RowKit

end Pk
end Go.Proofs.YtchmkmhdbjhhaaaDoor
/- pack.read: what is deferred. -/
namespace Go.Proofs.YtchmkmhdbjhhaaaDoor
namespace Pk
open Go.RowKit
/-- A variable of one cell at block G. -/
structure B1 (G : Nat) (w : World) : Prop where
  hi : G < w.heap.size
  c : (w.cell? ⟨G, 0, none⟩).isSome = true
  f : w.frozen? ⟨G, 0, none⟩ = false
theorem B1_gb {G : Nat} {w w' : World} {r : Option Nat} (h : B1 G w) (hb : w.grownBy w' r) (hr : some G ≠ r) : B1 G w' := by
  have hbk : w'.heap[G]? = w.heap[G]? := hb.block G h.hi hr
  exact ⟨Nat.lt_of_lt_of_le h.hi hb.size, by rw [World.cell?_of_block (a := ⟨G, 0, none⟩) hbk]; exact h.c, (World.frozen?_of_block (a := ⟨G, 0, none⟩) hbk).trans h.f⟩
theorem B1_new (w : World) (v : Value) (ty : TypeId) : B1 w.heap.size (w.alloc (.cells #[v] ty)) := by
  have hn := heap_alloc_new w (.cells #[v] ty)
  exact ⟨by simp, by simp only [World.cell?, hn]; rfl, by simp only [World.frozen?, hn]; simp⟩
theorem B1_set {G : Nat} {w : World} (h : B1 G w) (v : Value) : B1 G (w.setCell ⟨G, 0, none⟩ v) ∧ (w.setCell ⟨G, 0, none⟩ v).cell? ⟨G, 0, none⟩ = some v := by
  obtain ⟨u, hu⟩ := Option.isSome_iff_exists.1 h.c
  have hs := World.cell?_setCell_same w ⟨G, 0, none⟩ v hu
  exact ⟨⟨by simpa using h.hi, by rw [hs]; rfl, by rw [World.frozen?_setCell]; exact h.f⟩, hs⟩
theorem cell_gb {G o : Nat} {w w' : World} {r : Option Nat} {v : Value} (h : w.cell? ⟨G, o, none⟩ = some v) (hb : w.grownBy w' r) (hr : some G ≠ r) : w'.cell? ⟨G, o, none⟩ = some v := hb.cell h hr
/-- While a fault is caught. -/
structure CW (lo a b c f : Nat) (w wx : World) : Prop where
  bl : Below lo w wx
  ha : B3 a wx
  hb : B1 b wx
  hc : B1 c wx
  hf : wx.cell? ⟨f, 0, none⟩ = some (.int .i64 1)
theorem CW_gb {lo a b c f G : Nat} {w w1 w2 : World} (h : CW lo a b c f w w1) (hg : w1.grownBy w2 (some G)) (hlo : lo ≤ G) (hls : lo ≤ w1.heap.size) (h1 : G = a ∧ B3 a w2 ∨ G ≠ a) (h2 : G = b ∧ B1 b w2 ∨ G ≠ b) (h3 : G = c ∧ B1 c w2 ∨ G ≠ c) (h4 : G ≠ f) : CW lo a b c f w w2 := by
  refine ⟨h.bl.trans ⟨hg.os, hg.tape, hg.output, hg.size, fun j hj => hg.block j (by omega) (fun e => by injection e with e; omega)⟩, ?_, ?_, ?_, cell_gb h.hf hg (fun e => by injection e with e; omega)⟩
  · rcases h1 with h1 | h1
    · exact h1.2
    · exact B3_gb h.ha hg (fun e => by injection e with e; omega)
  · rcases h2 with h1 | h1
    · exact h1.2
    · exact B1_gb h.hb hg (fun e => by injection e with e; omega)
  · rcases h3 with h1 | h1
    · exact h1.2
    · exact B1_gb h.hc hg (fun e => by injection e with e; omega)
theorem CW_drew {lo a b c f : Nat} {w w1 : World} (h : CW lo a b c f w w1) : CW lo a b c f w w1.drew :=
  ⟨h.bl.trans ((Below.refl _ _).drew), B3_gb (r := none) h.ha (gb_below (Below.refl _ _).drew) (fun e => by cases e), B1_gb (r := none) h.hb (gb_below (Below.refl _ _).drew) (fun e => by cases e), B1_gb (r := none) h.hc (gb_below (Below.refl _ _).drew) (fun e => by cases e), cell_gb (r := none) h.hf (gb_below (Below.refl _ _).drew) (fun e => by cases e)⟩
def CI (lo a b c f : Nat) (w : World) (X : Value) (d : Nat → Bool) (x : Act) (wx : World) : Prop :=
  ∃ (u12 u13 u14 : Value), x = { tmps := #[.pointer (some ⟨a, 0, none⟩), .pointer (some ⟨b, 0, none⟩), .pointer (some ⟨c, 0, none⟩), undef, .pointer (some ⟨f, 0, none⟩), undef, X, undef, .bool false, .tuple #[.agg #[.int .i64 1], .bool true], .bool true, .agg #[.int .i64 1], u12, u13, u14], defers := [] } ∧ CW lo a b c f w wx ∧ (d 0 = true → u12 = .agg #[.bool false, .slice none 0 0, .slice none 0 0]) ∧ (d 1 = true → u13 = .pointer (some ⟨f, 0, none⟩)) ∧ (d 2 = true → u14 = .int .i64 1) ∧ (d 3 = true → wx.cell? ⟨a, 0, none⟩ = some (.bool false) ∧ wx.cell? ⟨a, 1, none⟩ = some (.slice none 0 0) ∧ wx.cell? ⟨a, 2, none⟩ = some (.slice none 0 0)) ∧ (d 4 = true → wx.cell? ⟨b, 0, none⟩ = some (.int .i64 0)) ∧ (d 5 = true → wx.cell? ⟨c, 0, none⟩ = some (.int .i64 1))
end Pk
end Go.Proofs.YtchmkmhdbjhhaaaDoor
/- pack.read. -/
namespace Go.Proofs.YtchmkmhdbjhhaaaDoor
namespace Pk
open Go.RowKit
theorem sx_of {b : List UInt8} {ao : Option Addr} {cap : Nat} {w : World} (h : Sl b (.slice ao b.length cap) w) (hc : (cap : Int) ≤ 9223372036854775807) : Sx w.heap.size b (.slice ao b.length cap) w := by
  obtain ⟨ao', cap', e, h2, h3⟩ := h
  injection e with e1 e2 e3
  subst e1 e3
  refine ⟨ao, cap, rfl, h2, hc, fun h0 => ?_⟩
  obtain ⟨k, off, x1, x2, x3⟩ := h3 h0
  exact ⟨k, off, x1, x2, x2, x3⟩
/-- What pack.read starts with: its results' variables, and the reader. -/
structure R0 (h : Nat) (b : List UInt8) (w W : World) : Prop where
  x : B3 h W
  y : B1 (h + 1) W
  z : B1 (h + 1 + 1) W
  r : Rd (h + 1 + 1 + 1) b W
  l : Below h w W
/-- While pack.read lays its answer. -/
structure RA (h m cap2 : Nat) (ao2 : Option Addr) (t : It) (l : Bool) (a1 a2 : Option Addr) (n1 p1 n2 p2 : Nat) (w wx : World) : Prop where
  bl : Below h w wx
  x : B3 h wx
  y : B1 (h + 1) wx
  z : B1 (h + 1 + 1) wx
  c0 : wx.cell? ⟨h, 0, none⟩ = some (.bool l)
  c1 : wx.cell? ⟨h, 1, none⟩ = some (.slice a1 n1 p1)
  c2 : wx.cell? ⟨h, 2, none⟩ = some (.slice a2 n2 p2)
  r : wx.cell? ⟨h + 1 + 1 + 1, 0, none⟩ = some (.slice ao2 m cap2)
  i : Iv (h + 1 + 1 + 1 + 1 ≤ ·) wx t (.bool l, .slice a1 n1 p1, .slice a2 n2 p2)
theorem RA_drew {h m cap2 : Nat} {ao2 : Option Addr} {t : It} {l : Bool} {a1 a2 : Option Addr} {n1 p1 n2 p2 : Nat} {w w1 : World} (k : RA h m cap2 ao2 t l a1 a2 n1 p1 n2 p2 w w1) : RA h m cap2 ao2 t l a1 a2 n1 p1 n2 p2 w w1.drew := by
  have g : w1.grownBy w1.drew none := gb_below (Below.refl _ _).drew
  exact ⟨k.bl.trans (Below.refl _ _).drew, B3_gb k.x g nofun, B1_gb k.y g nofun, B1_gb k.z g nofun, cell_gb k.c0 g nofun, cell_gb k.c1 g nofun, cell_gb k.c2 g nofun, cell_gb k.r g nofun, Iv_gb k.i g (fun _ _ => nofun)⟩
theorem RA_x {h m cap2 : Nat} {ao2 : Option Addr} {t : It} {l : Bool} {a1 a2 : Option Addr} {n1 p1 n2 p2 : Nat} {w w1 w2 : World} (k : RA h m cap2 ao2 t l a1 a2 n1 p1 n2 p2 w w1) (g : w1.grownBy w2 (some h)) (b3 : B3 h w2) (z0 : w2.cell? ⟨h, 0, none⟩ = some (.bool l)) (z1 : w2.cell? ⟨h, 1, none⟩ = some (.slice a1 n1 p1)) (z2 : w2.cell? ⟨h, 2, none⟩ = some (.slice a2 n2 p2)) : RA h m cap2 ao2 t l a1 a2 n1 p1 n2 p2 w w2 :=
  ⟨k.bl.trans ⟨g.os, g.tape, g.output, g.size, fun j hj => g.block j (by have := k.x.hi; omega) (fun e => by injection e with e; omega)⟩, b3, B1_gb k.y g (fun e => by injection e with e; omega), B1_gb k.z g (fun e => by injection e with e; omega), z0, z1, z2, cell_gb k.r g (fun e => by injection e with e; omega), Iv_gb k.i g (fun j hj e => by injection e with e; omega)⟩
theorem RA_y {h m cap2 G : Nat} {ao2 : Option Addr} {t : It} {l : Bool} {a1 a2 : Option Addr} {n1 p1 n2 p2 : Nat} {w w1 w2 : World} (k : RA h m cap2 ao2 t l a1 a2 n1 p1 n2 p2 w w1) (g : w1.grownBy w2 (some G)) (hG : G = h + 1 ∨ G = h + 1 + 1) (hy : B1 (h + 1) w2) (hz : B1 (h + 1 + 1) w2) : RA h m cap2 ao2 t l a1 a2 n1 p1 n2 p2 w w2 :=
  ⟨k.bl.trans ⟨g.os, g.tape, g.output, g.size, fun j hj => g.block j (by have := k.x.hi; omega) (fun e => by injection e with e; omega)⟩, B3_gb k.x g (fun e => by injection e with e; omega), hy, hz, cell_gb k.c0 g (fun e => by injection e with e; omega), cell_gb k.c1 g (fun e => by injection e with e; omega), cell_gb k.c2 g (fun e => by injection e with e; omega), cell_gb k.r g (fun e => by injection e with e; omega), Iv_gb k.i g (fun j hj e => by injection e with e; omega)⟩
end Pk
end Go.Proofs.YtchmkmhdbjhhaaaDoor
/- pack.Split. -/
namespace Go.Proofs.YtchmkmhdbjhhaaaDoor
namespace Pk
open Go.RowKit
/-- What Split answers. -/
def sp (b : List UInt8) : It × Int × Int :=
  match ritem b with
  | none => (It.no, 0, 1)
  | some (t, r) => (t, (b.length : Int) - r.length, 0)
end Pk
end Go.Proofs.YtchmkmhdbjhhaaaDoor
/- pack.Decode. -/
namespace Go.Proofs.YtchmkmhdbjhhaaaDoor
namespace Pk
open Go.RowKit
/-- What Decode answers. -/
def dc (b : List UInt8) : It × Int :=
  match ritem b with
  | none => (It.no, 1)
  | some (t, r) => if r.length = 0 then (t, 0) else (It.no, 1)
end Pk
end Go.Proofs.YtchmkmhdbjhhaaaDoor
/- lampbearerref.Bare, of what is bare. -/
namespace Go.Proofs.YtchmkmhdbjhhaaaDoor
namespace Pk
open Go.RowKit
/-- An item that has only what means something. -/
inductive Br : It → Prop where
  | text (t : List UInt8) : Br (.mk false t [])
  | list (ks : List It) (h : ∀ j, j < ks.length → Br (ks.getD j It.no)) : Br (.mk true [] ks)
theorem msr_up (k n : Nat) (h : k < n) : ((n : Int) - intOf (.int .i64 ((k + 1 : Nat) : Int))).toNat < ((n : Int) - intOf (.int .i64 (k : Int))).toNat := by
  simp only [intOf]
  omega
/-- How great an item may be. -/
inductive Sm : It → Prop where
  | mk (l : Bool) (t : List UInt8) (ks : List It) (ht : t.length ≤ 4194304) (hk : ks.length ≤ 4194304) (h : ∀ j, j < ks.length → Sm (ks.getD j It.no)) : Sm (.mk l t ks)
end Pk
end Go.Proofs.YtchmkmhdbjhhaaaDoor
/- pack: what is read is bare, and not too great. -/
namespace Go.Proofs.YtchmkmhdbjhhaaaDoor
namespace Pk
open Go.RowKit
def BS (t : It) : Prop := Br t ∧ Sm t
theorem bs_text (t : List UInt8) (h : t.length ≤ 4194304) : BS (.mk false t []) := ⟨.text t, .mk _ _ _ h (by simp) (fun j hj => absurd hj (by simp))⟩
theorem bs_list (ks : List It) (h : ks.length ≤ 4194304) (hi : ∀ j, j < ks.length → BS (ks.getD j It.no)) : BS (.mk true [] ks) := ⟨.list ks (fun j hj => (hi j hj).1), .mk _ _ _ (by simp) h (fun j hj => (hi j hj).2)⟩
theorem bs_no : BS It.no := bs_text [] (by simp)
theorem rtx_len {s : Nat} {b t r : List UInt8} (h : rtx s b = some (t, r)) : t.length ≤ b.length := by
  unfold rtx at h
  split at h
  · cases h
  · split at h
    · cases h
    · split at h
      · cases h
      · cases h
        simp only [List.length_take, List.length_drop]
        omega
theorem kids_bs (N : Nat) (hP : ∀ b : List UInt8, b.length ≤ N → ∀ t r, ritem b = some (t, r) → BS t) : ∀ (M : Nat) (b : List UInt8), b.length ≤ M → M ≤ N → ∀ ks, rkids b = some ks → ks.length ≤ b.length ∧ ∀ j, j < ks.length → BS (ks.getD j It.no)
  | 0, b, h, _, ks, e => by
    have e0 : b = [] := List.length_eq_zero_iff.1 (by omega)
    subst e0
    rw [rkids_nil] at e
    cases e
    exact ⟨Nat.le_refl _, fun j hj => absurd hj (by simp)⟩
  | M + 1, [], _, _, ks, e => by
    rw [rkids_nil] at e
    cases e
    exact ⟨Nat.le_refl _, fun j hj => absurd hj (by simp)⟩
  | M + 1, c :: r, h, hM, ks, e => by
    cases hr : ritem (c :: r) with
    | none => rw [rkids_none (by simp) hr] at e; cases e
    | some q =>
      rw [rkids_some (t := q.1) (r := q.2) (by simp) hr] at e
      obtain ⟨ks', h1, rfl⟩ := Option.map_eq_some_iff.1 e
      have hs := ritem_shorter (t := q.1) (r := q.2) hr
      obtain ⟨i1, i2⟩ := kids_bs N hP M q.2 (by omega) (by omega) ks' h1
      refine ⟨by simp only [List.length_cons] at hs ⊢; omega, fun j hj => ?_⟩
      cases j with
      | zero => exact hP (c :: r) (by omega) q.1 q.2 hr
      | succ j => exact i2 j (by simpa using hj)
theorem item_bs : ∀ (N : Nat), N ≤ 4194304 → ∀ b : List UInt8, b.length ≤ N → ∀ t r, ritem b = some (t, r) → BS t
  | 0, _, b, h, t, r, e => by
    have e0 : b = [] := List.length_eq_zero_iff.1 (by omega)
    subst e0
    cases e
  | N + 1, hN, [], _, t, r, e => by cases e
  | N + 1, hN, c :: r, h, t, r', e => by
    simp only [List.length_cons] at h
    unfold ritem rit at e
    simp only at e
    split at e
    · cases e
      exact bs_text _ (by simp)
    · split at e
      · obtain ⟨q, h1, h2⟩ := Option.map_eq_some_iff.1 e
        cases h2
        have := rtx_len (t := q.1) (r := q.2) h1
        exact bs_text _ (by omega)
      · split at e
        · cases e
        · split at e
          · cases e
          · obtain ⟨ks, h1, h2⟩ := Option.map_eq_some_iff.1 e
            cases h2
            obtain ⟨i1, i2⟩ := kids_bs N (item_bs N (by omega)) N _ (by simp only [List.length_take, List.length_drop]; omega) (Nat.le_refl _) ks h1
            refine bs_list ks ?_ i2
            simp only [List.length_take, List.length_drop] at i1
            omega
theorem sp_bs (b : List UInt8) (h : b.length ≤ 4194304) : BS (sp b).1 := by
  unfold sp
  split
  · exact bs_no
  · exact item_bs _ h b (Nat.le_refl _) _ _ ‹_›
theorem dc_bs (b : List UInt8) (h : b.length ≤ 4194304) : BS (dc b).1 := by
  unfold dc
  split
  · exact bs_no
  · split
    · exact item_bs _ h b (Nat.le_refl _) _ _ ‹_›
    · exact bs_no
end Pk
end Go.Proofs.YtchmkmhdbjhhaaaDoor
/- The one form of an item, as a list of bytes; it is read as it was written. -/
namespace Go.Proofs.YtchmkmhdbjhhaaaDoor
namespace Pk
open Go.RowKit
/-- A head. -/
def hdr (mark n : Nat) : List UInt8 := if n < 48 then [UInt8.ofNat (mark + n)] else UInt8.ofNat (mark + 47 + (nu n).length) :: nu n
mutual
/-- The form of an item. -/
def enc : It → List UInt8
  | .mk false t _ => if t.length = 1 ∧ Sp.bz t 0 < 128 then t else hdr 128 t.length ++ t
  | .mk true _ ks => hdr 192 (encs ks).length ++ encs ks
/-- The forms of items, one behind the other. -/
def encs : List It → List UInt8
  | [] => []
  | k :: r => enc k ++ encs r
end
mutual
/-- What means something of an item. -/
def bar : It → It
  | .mk false t _ => .mk false t []
  | .mk true _ ks => .mk true [] (bars ks)
def bars : List It → List It
  | [] => []
  | k :: r => bar k :: bars r
end
theorem nu_8 (n : Nat) (h : n < 18446744073709551616) : (nu n).length ≤ 8 := by
  rcases Nat.lt_or_ge 8 (nu n).length with h1 | h1
  · exfalso
    have k := cb_low (nu n) (nu_cb n) (by omega)
    have hv : vb 0 (nu n) = n := nu_vb n (Nat.lt_trans h (by decide))
    rw [hv] at k
    have k2 : 256 ^ 8 ≤ 256 ^ ((nu n).length - 1) := Nat.pow_le_pow_right (by decide) (by omega)
    have k3 : (256 : Nat) ^ 8 = 18446744073709551616 := by decide
    omega
  · exact h1
theorem nu_pos (n : Nat) (h0 : 0 < n) (h : n < 18446744073709551616) : 0 < (nu n).length := by
  rcases Nat.eq_zero_or_pos (nu n).length with h1 | h1
  · exfalso
    have e : nu n = [] := List.length_eq_zero_iff.1 h1
    have hv : vb 0 (nu n) = n := nu_vb n (Nat.lt_trans h (by decide))
    rw [e] at hv
    have : vb 0 [] = 0 := rfl
    omega
  · exact h1
theorem u8_of (n : Nat) (h : n < 256) : (UInt8.ofNat n).toNat = n := by rw [UInt8.toNat_ofNat']; omega
/-- A size is read behind its head's first byte as it was written. -/
theorem rsz_hdr (n : Nat) (r : List UInt8) (h : n < 18446744073709551616) (hr : n ≤ r.length) : ∃ s k, s < 64 ∧ (∀ mark, mark + 64 ≤ 256 → hdr mark n ++ r = UInt8.ofNat (mark + s) :: ((hdr mark n).drop 1 ++ r) ∧ rsz s ((hdr mark n).drop 1 ++ r) = some (n, k) ∧ ((hdr mark n).drop 1 ++ r).drop k = r) := by
  by_cases h48 : n < 48
  · refine ⟨n, 0, by omega, fun mark _ => ?_⟩
    have e : hdr mark n = [UInt8.ofNat (mark + n)] := by unfold hdr; rw [if_pos h48]
    rw [e]
    refine ⟨rfl, ?_, rfl⟩
    unfold rsz
    rw [if_pos h48]
  · have l8 := nu_8 n h
    have l0 := nu_pos n (by omega) h
    have hv : vb 0 (nu n) = n := nu_vb n (Nat.lt_trans h (by decide))
    refine ⟨47 + (nu n).length, (nu n).length, by omega, fun mark _ => ?_⟩
    have e : hdr mark n = UInt8.ofNat (mark + 47 + (nu n).length) :: nu n := by unfold hdr; rw [if_neg h48]
    rw [e]
    refine ⟨by rw [Nat.add_assoc]; rfl, ?_, ?_⟩
    · have e1 : 47 + (nu n).length - 47 = (nu n).length := by omega
      simp only [List.drop_succ_cons, List.drop_zero]
      unfold rsz
      rw [if_neg (by omega), e1, if_neg (by rw [List.length_append]; omega), List.take_left, if_neg (nu_cb n), hv, if_neg h48, List.drop_left, if_neg (by omega)]
    · simp only [List.drop_succ_cons, List.drop_zero]
      rw [List.drop_left]
theorem ritem_text (t r : List UInt8) (ks : List It) (h : t.length < 18446744073709551616) : ritem (enc (.mk false t ks) ++ r) = some (.mk false t [], r) := by
  unfold enc
  by_cases h1 : t.length = 1 ∧ Sp.bz t 0 < 128
  · rw [if_pos h1]
    match t, h1 with
    | [c], h1 =>
      have hc : c.toNat < 128 := by have := h1.2; simp [Sp.bz] at this; omega
      unfold ritem rit
      simp only [List.cons_append, List.nil_append]
      rw [if_pos hc]
  · rw [if_neg h1, List.append_assoc]
    obtain ⟨s, k, hs, H⟩ := rsz_hdr t.length (t ++ r) h (by rw [List.length_append]; omega)
    obtain ⟨e1, e2, e3⟩ := H 128 (by decide)
    rw [e1]
    have hu : (UInt8.ofNat (128 + s)).toNat = 128 + s := u8_of _ (by omega)
    unfold ritem rit
    dsimp only
    rw [hu, if_neg (by omega), if_pos (by omega), show 128 + s - 128 = s by omega]
    unfold rtx
    rw [e2]
    dsimp only
    rw [e3, if_neg (by rw [List.length_append]; omega)]
    rw [if_neg (fun h2 => h1 ⟨h2.1, by
      have hz : Sp.bz (t ++ r) 0 = Sp.bz t 0 := by
        simp only [Sp.bz, List.getD_eq_getElem?_getD]
        rw [List.getElem?_append_left (by omega)]
      rw [← hz]; exact h2.2⟩)]
    simp
theorem ritem_lists (ks : List It) (a r : List UInt8) (h : (encs ks).length < 18446744073709551616) (hk : rkids (encs ks) = some (bars ks)) : ritem (enc (.mk true a ks) ++ r) = some (.mk true [] (bars ks), r) := by
  unfold enc
  rw [List.append_assoc]
  obtain ⟨s, k, hs, H⟩ := rsz_hdr (encs ks).length (encs ks ++ r) h (by rw [List.length_append]; omega)
  obtain ⟨e1, e2, e3⟩ := H 192 (by decide)
  rw [e1]
  have hu : (UInt8.ofNat (192 + s)).toNat = 192 + s := u8_of _ (by omega)
  unfold ritem rit
  dsimp only
  rw [hu, if_neg (by omega), if_neg (by omega), show 192 + s - 192 = s by omega, e2]
  dsimp only
  rw [e3, if_neg (by rw [List.length_append]; omega), List.take_left, List.drop_left, hk]
  rfl
theorem enc_pos (t : It) : 0 < (enc t).length := by
  cases t with
  | mk l t ks =>
    have hh : ∀ m n, 0 < (hdr m n).length := fun m n => by unfold hdr; split <;> simp
    cases l
    · unfold enc
      split
      · rename_i h; omega
      · rw [List.length_append]; have := hh 128 t.length; omega
    · unfold enc
      rw [List.length_append]
      have := hh 192 (encs ks).length
      omega
mutual
theorem ritem_enc : ∀ (t : It) (r : List UInt8), (enc t).length < 18446744073709551616 → ritem (enc t ++ r) = some (bar t, r)
  | .mk false t ks, r, h => by
    have hl : t.length < 18446744073709551616 := by
      unfold enc at h
      split at h
      · exact h
      · rw [List.length_append] at h; omega
    rw [ritem_text t r ks hl]
    rfl
  | .mk true a ks, r, h => by
    have hl : (encs ks).length < 18446744073709551616 := by
      unfold enc at h
      rw [List.length_append] at h; omega
    rw [ritem_lists ks a r hl (rkids_encs ks hl)]
    rfl
theorem rkids_encs : ∀ ks : List It, (encs ks).length < 18446744073709551616 → rkids (encs ks) = some (bars ks)
  | [], _ => rkids_nil
  | k :: ks, h => by
    unfold encs at h ⊢
    rw [List.length_append] at h
    have h0 := enc_pos k
    rw [rkids_some (by rw [List.length_append]; omega) (ritem_enc k (encs ks) (by omega)), rkids_encs ks (by omega)]
    rfl
end
end Pk
end Go.Proofs.YtchmkmhdbjhhaaaDoor
/- pack's writer: head. -/
namespace Go.Proofs.YtchmkmhdbjhhaaaDoor
namespace Pk
open Go.RowKit Go.Shelf
theorem wt_form {g : Nat} {bs : List UInt8} {v : Value} {w : World} (h : Wt g bs v w) : ∃ a n c, v = .slice a n c := by
  rcases h.o.2 with ⟨h3, _⟩ | ⟨g3, cap3, cur, h3, _⟩
  · exact ⟨_, _, _, h3⟩
  · exact ⟨_, _, _, h3⟩
/-- One byte more. -/
theorem Wt_step {W WC : World} {g G pq n1 p1 : Nat} {a1 : Option Addr} {bs : List UInt8} (c : UInt8) (hw1 : Wt g bs (.slice a1 n1 p1) W)
    (own2 : WC.ownsRow (g + 1) 5 1 (.slice (some ⟨G, 0, none⟩) (bs.length + 1) pq) (bs ++ [c]).length (bcs (bs ++ [c]))) (hgr : (W.alloc (.cells #[.int .u8 (c.toNat : Int)] 5)).grownBy WC (Value.slice a1 n1 p1).ownBlock) (hG : (Value.slice a1 n1 p1).ownBlock = some G ∨ (W.alloc (.cells #[.int .u8 (c.toNat : Int)] 5)).heap.size ≤ G) :
    (W.alloc (.cells #[.int .u8 (c.toNat : Int)] 5)).cell? ⟨g, 0, none⟩ = some (.slice a1 n1 p1) ∧ WC.cell? ⟨g, 0, none⟩ = some (.slice a1 n1 p1) ∧ WC.frozen? ⟨g, 0, none⟩ = false ∧
    Wt g (bs ++ [c]) (.slice (some ⟨G, 0, none⟩) (bs.length + 1) pq) (WC.setCell ⟨g, 0, none⟩ (.slice (some ⟨G, 0, none⟩) (bs.length + 1) pq)) ∧ Fw g (.slice a1 n1 p1) (.slice (some ⟨G, 0, none⟩) (bs.length + 1) pq) W (WC.setCell ⟨g, 0, none⟩ (.slice (some ⟨G, 0, none⟩) (bs.length + 1) pq)) := by
  have hlo := hw1.o.lt
  have bB : Below W.heap.size W (W.alloc (.cells #[.int .u8 (c.toNat : Int)] 5)) := (Below.refl _ _).alloc (Nat.le_refl _) _
  have hsB := bB.size
  generalize W.alloc (.cells #[.int .u8 (c.toNat : Int)] 5) = WB at *
  have gs := gb_set WC g 0 (.slice (some ⟨G, 0, none⟩) (bs.length + 1) pq)
  have hgi := hw1.hi
  have ng : some g ≠ (Value.slice a1 n1 p1).ownBlock := fun e => by have := (hlo g e.symm).1; omega
  have cBg : WB.cell? ⟨g, 0, none⟩ = some (.slice a1 n1 p1) := (bB.cell (p := ⟨g, 0, none⟩) hgi).trans hw1.c
  have cCg : WC.cell? ⟨g, 0, none⟩ = some (.slice a1 n1 p1) := (World.cell?_of_block (a := ⟨g, 0, none⟩) (hgr.block g (by omega) ng)).trans cBg
  have fCg : WC.frozen? ⟨g, 0, none⟩ = false := (World.frozen?_of_block (a := ⟨g, 0, none⟩) (hgr.block g (by omega) ng)).trans ((bB.frozen (p := ⟨g, 0, none⟩) hgi).trans hw1.f)
  have hGg : G ≠ g := by
    rcases hG with h | h
    · have := (hlo G h).1; omega
    · omega
  have szD : (WC.setCell ⟨g, 0, none⟩ (.slice (some ⟨G, 0, none⟩) (bs.length + 1) pq)).heap.size = WC.heap.size := by simp [World.setCell]
  have hsC := hgr.size
  refine ⟨cBg, cCg, fCg, ⟨by rw [szD]; omega, by rw [World.frozen?_setCell]; exact fCg, World.cell?_setCell_same WC ⟨g, 0, none⟩ _ cCg, own2.kept gs (.inr (fun e => by
    have e2 : (some G : Option Nat) = some g := e
    injection e2 with e2
    exact hGg e2))⟩, ⟨gs.os.trans (hgr.os.trans bB.os), gs.tape.trans (hgr.tape.trans bB.tape), gs.output.trans (hgr.output.trans bB.output), by rw [szD]; omega, fun j hj h1 h2 => (gs.block j (by omega) (fun e => h1 (by injection e))).trans ((hgr.block j (by omega) h2).trans (bB.block j hj)), ?_⟩⟩
  rcases hG with h | h
  · exact .inl h.symm
  · right
    intro k hk
    have e2 : (some G : Option Nat) = some k := hk
    injection e2 with e2
    omega
end Pk
end Go.Proofs.YtchmkmhdbjhhaaaDoor
/- pack.Num: where its bytes lie. -/
namespace Go.Proofs.YtchmkmhdbjhhaaaDoor
namespace Pk
open Go.RowKit

end Pk
end Go.Proofs.YtchmkmhdbjhhaaaDoor
/- pack's writer: head, long; head at every size. -/
namespace Go.Proofs.YtchmkmhdbjhhaaaDoor
namespace Pk
open Go.RowKit Go.Shelf
theorem Wt_below {g : Nat} {bs : List UInt8} {v : Value} {w w' : World} (h : Wt g bs v w) (b : Below w.heap.size w w') : Wt g bs v w' :=
  ⟨Nat.lt_of_lt_of_le h.hi b.size, (b.frozen (p := ⟨g, 0, none⟩) h.hi).trans h.f, (b.cell (p := ⟨g, 0, none⟩) h.hi).trans h.c, ownb h.o b⟩
theorem Fw_below {g : Nat} {v : Value} {w w' : World} (b : Below w.heap.size w w') : Fw g v v w w' := ⟨b.os, b.tape, b.output, b.size, fun j hj _ _ => b.block j hj, .inl rfl⟩
end Pk
end Go.Proofs.YtchmkmhdbjhhaaaDoor
/- pack's writer: text. -/
namespace Go.Proofs.YtchmkmhdbjhhaaaDoor
namespace Pk
open Go.RowKit Go.Shelf

end Pk
end Go.Proofs.YtchmkmhdbjhhaaaDoor
/- lampbearerref.SameItem, of one item twice. -/
namespace Go.Proofs.YtchmkmhdbjhhaaaDoor
namespace Pk
open Go.RowKit

end Pk
end Go.Proofs.YtchmkmhdbjhhaaaDoor
/- slices.Backward of items. -/
namespace Go.Proofs.YtchmkmhdbjhhaaaDoor
namespace Pk
open Go.RowKit Go.Shelf
attribute [local go_sem] Oper.semAt_some
/-- Places from the last one on. -/
def dn (n : Nat) (k : Nat) : Nat := n - 1 - k
theorem upto_dn (n : Nat) : upto (dn n) n = (List.range n).reverse := by
  apply List.ext_getElem
  · simp [upto]
  · intro i h1 h2
    simp [upto, dn]
/-- An item's three values. -/
def Fm (v : V3) : Prop := ∃ l b1 m1 q1 b2 m2 q2, v = (.bool l, .slice b1 m1 q1, .slice b2 m2 q2)
end Pk
end Go.Proofs.YtchmkmhdbjhhaaaDoor
/- pack's writer: what an item takes; item, of a text. -/
namespace Go.Proofs.YtchmkmhdbjhhaaaDoor
namespace Pk
open Go.RowKit Go.Shelf
/-- A block that lies there, and is neither the writer's nor its row's. -/
def So (w : World) (g : Nat) (v : Value) (k : Nat) : Prop := k < w.heap.size ∧ k ≠ g ∧ some k ≠ v.ownBlock
theorem So_fw {w W : World} {g k : Nat} {v v' : Value} (h : So w g v k) (hf : Fw g v v' w W) : So W g v' k ∧ W.heap[k]? = w.heap[k]? := by
  refine ⟨⟨Nat.lt_of_lt_of_le h.1 hf.size, h.2.1, fun e => ?_⟩, hf.block k h.1 h.2.1 h.2.2⟩
  rcases hf.own with h1 | h1
  · exact h.2.2 (e.trans h1)
  · have := h1 k e.symm
    have := h.1
    omega
theorem Ty_fw {w W : World} {g : Nat} {v v' u : Value} {b : List UInt8} (h : Ty (So w g v) b u w) (hf : Fw g v v' w W) : Ty (So W g v') b u W := by
  obtain ⟨ao, cap, h1, h2, h4⟩ := h
  refine ⟨ao, cap, h1, h2, fun h0 => ?_⟩
  obtain ⟨k, off, e, hne, hlt, hc⟩ := h4 h0
  have hs := So_fw hne hf
  exact ⟨k, off, e, hs.1, hs.1.1, fun j hj => (World.cell?_of_block (a := ⟨k, off + j, none⟩) hs.2).trans (hc j hj)⟩
theorem Kx_fw {w W : World} {g : Nat} {v v' u : Value} {vs : List V3} (h : Kx (So w g v) vs u w) (hf : Fw g v v' w W) : Kx (So W g v') vs u W := by
  obtain ⟨ao, cap, h1, h2, h4⟩ := h
  refine ⟨ao, cap, h1, h2, fun h0 => ?_⟩
  obtain ⟨k, off, e, hne, hlt, hc⟩ := h4 h0
  have hs := So_fw hne hf
  exact ⟨k, off, e, hs.1, hs.1.1, fun j hj => ⟨(World.cell?_of_block (a := ⟨k, off + 3 * j, none⟩) hs.2).trans (hc j hj).1, (World.cell?_of_block (a := ⟨k, off + 3 * j + 1, none⟩) hs.2).trans (hc j hj).2.1, (World.cell?_of_block (a := ⟨k, off + 3 * j + 2, none⟩) hs.2).trans (hc j hj).2.2⟩⟩
theorem Iv_fw {w W : World} {g : Nat} {v v' : Value} {t : It} {u : V3} (h : Iv (So w g v) w t u) (hf : Fw g v v' w W) : Iv (So W g v') W t u := by
  induction h with
  | mk l t ks tv kv vs ht hl hk hi ih => exact .mk l t ks tv kv vs (Ty_fw ht hf) hl (Kx_fw hk hf) ih
/-- Items are well founded. -/
inductive Wf : It → Prop where
  | mk (l : Bool) (t : List UInt8) (ks : List It) (h : ∀ j, j < ks.length → Wf (ks.getD j It.no)) : Wf (.mk l t ks)
mutual
theorem wf_any : ∀ t : It, Wf t
  | .mk l t ks => .mk l t ks (wf_all ks)
theorem wf_all : ∀ (ks : List It) (j : Nat), j < ks.length → Wf (ks.getD j It.no)
  | [], j, h => absurd h (by simp)
  | k :: _, 0, _ => wf_any k
  | _ :: r, j + 1, h => wf_all r j (by simpa using h)
end
theorem hdr_pos (m n : Nat) : 0 < (hdr m n).length := by
  unfold hdr
  split <;> simp
theorem enc_text_len (t : List UInt8) (ks : List It) : t.length ≤ (enc (.mk false t ks)).length := by
  unfold enc
  split
  · omega
  · rw [List.length_append]; omega
theorem encs_many : ∀ ks : List It, ks.length ≤ (encs ks).length
  | [] => Nat.zero_le _
  | k :: r => by
    have := encs_many r
    have := enc_pos k
    unfold encs
    rw [List.length_append, List.length_cons]; omega
theorem encs_one : ∀ (ks : List It) (j : Nat), j < ks.length → (enc (ks.getD j It.no)).length + (ks.length - 1) ≤ (encs ks).length
  | [], j, h => absurd h (by simp)
  | k :: r, 0, _ => by
    have := encs_many r
    unfold encs
    rw [List.length_append, List.length_cons, List.getD_cons_zero]; omega
  | k :: r, j + 1, h => by
    have := encs_one r j (by simpa using h)
    have := enc_pos k
    have h2 : j < r.length := by simpa using h
    unfold encs
    rw [List.length_append, List.length_cons, List.getD_cons_succ]; omega
/-- What has been laid when these kids have come. -/
def flN (ks : List It) (ns : List Nat) : List UInt8 := (ns.map fun j => (enc (ks.getD j It.no)).reverse).flatten
theorem flN_app (ks : List It) (x : List Nat) (j : Nat) : flN ks (x ++ [j]) = flN ks x ++ (enc (ks.getD j It.no)).reverse := by simp [flN]
theorem flN_all : ∀ ks : List It, flN ks (List.range ks.length).reverse = (encs ks).reverse
  | [] => rfl
  | k :: r => by
    have ih := flN_all r
    have e : ∀ l : List Nat, flN (k :: r) (l.map Nat.succ) = flN r l := fun l => by
      unfold flN
      rw [List.map_map]
      rfl
    rw [List.length_cons, List.range_succ_eq_map, List.reverse_cons, ← List.map_reverse, flN_app, e, ih, List.getD_cons_zero]
    show _ = (enc k ++ encs r).reverse
    rw [List.reverse_append]
theorem flN_len (ks : List It) (M : Nat) (hM : ∀ j, j < ks.length → (enc (ks.getD j It.no)).length ≤ M) : ∀ ns : List Nat, (∀ j, j ∈ ns → j < ks.length) → (flN ks ns).length ≤ ns.length * M
  | [], _ => Nat.zero_le _
  | j :: r, h => by
    have ih := flN_len ks M hM r (fun i hi => h i (List.mem_cons_of_mem _ hi))
    have h1 := hM j (h j (List.mem_cons_self ..))
    have e : flN ks (j :: r) = (enc (ks.getD j It.no)).reverse ++ flN ks r := rfl
    rw [e, List.length_append, List.length_reverse, List.length_cons, Nat.add_mul, Nat.one_mul]
    omega
/-- There is room for a kid, whichever have come. -/
theorem kid_room (ks : List It) (B : Nat) (h : B + (encs ks).length * (encs ks).length + 32 ≤ 4398046511103) (ns : List Nat) (hns : ∀ j, j ∈ ns → j < ks.length) (x : Nat) (hx : x < ks.length) (hp : ns.length < ks.length) :
    B + (flN ks ns).length + (enc (ks.getD x It.no)).length * (enc (ks.getD x It.no)).length + 32 ≤ 4398046511103 := by
  obtain ⟨E, hE⟩ : ∃ E, E = (encs ks).length := ⟨_, rfl⟩
  obtain ⟨N, hN⟩ : ∃ N, ks.length = N + 1 := ⟨ks.length - 1, by omega⟩
  have hM : ∀ j, j < ks.length → (enc (ks.getD j It.no)).length ≤ E - N := fun j hj => by have := encs_one ks j hj; omega
  have h1 := flN_len ks (E - N) hM ns hns
  have h2 : ns.length * (E - N) ≤ N * (E - N) := Nat.mul_le_mul_right _ (by omega)
  have hx := hM x hx
  have h3 := Nat.mul_le_mul hx hx
  have h4 : N ≤ E := by have := encs_many ks; omega
  have h5 : N * (E - N) + (E - N) * (E - N) = E * (E - N) := by rw [← Nat.add_mul]; congr 1; omega
  have h6 : E * (E - N) ≤ E * E := Nat.mul_le_mul_left _ (by omega)
  rw [← hE] at h
  omega
end Pk
end Go.Proofs.YtchmkmhdbjhhaaaDoor
/- lampbearerref.phead, PEncode. -/
namespace Go.Proofs.YtchmkmhdbjhhaaaDoor
namespace Pk
open Go.RowKit
theorem lit_own2 (l : List UInt8) (w : World) (B : Nat) (h : B ≤ w.heap.size) (hl : l.length ≤ 64) : (w.alloc (.cells (bcs l).toArray 5)).ownsRow B 5 1 (.slice (some ⟨w.heap.size, 0, none⟩) l.length l.length) l.length (bcs l) := by
  have k := World.ownsRow_lit (size := 1) (e := 5) w (bcs l).toArray l.length h (by unfold maxLen; omega) (by simp [bcs_len])
  simpa using k
/-- Bytes as a string. -/
def bst (l : List UInt8) : ByteArray := ⟨l.toArray⟩
theorem bst_cat (l m : List UInt8) : bst l ++ bst m = bst (l ++ m) := by
  unfold bst
  apply ByteArray.ext
  simp
theorem bst_size (l : List UInt8) : (bst l).size = l.length := by simp [bst, ByteArray.size]
theorem Sl_bst {b : List UInt8} {v : Value} {w : World} (h : Sl b v w) : (convert 29 9 v).run Tryd.prog w = .ok (.string (bst b)) w := Sl_conv h
theorem str_sl (l : List UInt8) (w : World) : ∃ c W, (convert 9 29 (.string (bst l))).run Tryd.prog w = .ok (.slice (some ⟨w.heap.size, 0, none⟩) l.length c) W ∧ Sl l (.slice (some ⟨w.heap.size, 0, none⟩) l.length c) W ∧ Below w.heap.size w W := by
  have h := Lib.run_convert_string_bytes w 9 29 5 (bst l) Tryd.underlying9 Tryd.underlying29 Tryd.underlying5
  rw [bst_size] at h
  refine ⟨_, _, h, ⟨_, _, rfl, grownCap_ge _ _ _ _, fun h0 => ⟨_, _, rfl, ?_, fun j hj => ?_⟩⟩, ⟨?_, ?_, ?_, ?_, fun k hk => Lib.bytesWorld_at_old w _ _ k hk⟩⟩
  · rw [Lib.bytesWorld_size]; omega
  · rw [Nat.zero_add, Lib.bytesWorld_cell w _ _ j (by rw [bst_size]; exact hj)]
    rfl
  · rfl
  · rfl
  · rfl
  · rw [Lib.bytesWorld_size]; omega
theorem cat_bst (l m : List UInt8) (hl : l.length ≤ 8388608) (hm : m.length ≤ 8388608) (w : World) : (Op.stringOp .add (bst l) (bst m)).run Tryd.prog w = .ok (.string (bst (l ++ m))) w := run_string_add_lists w l m (by omega) (by omega)
def mkh (l : Bool) : Nat := if l then 192 else 128
theorem lit_sl1 (c : UInt8) (w : World) : Sl [c] (.slice (some ⟨w.heap.size, 0, none⟩) 1 1) (w.alloc (.cells #[.int .u8 (c.toNat : Int)] 5)) := own_sl (lit_own2 [c] w w.heap.size (Nat.le_refl _) (by simp))
end Pk
end Go.Proofs.YtchmkmhdbjhhaaaDoor
/- lampbearerref.MOp: its table. -/
namespace Go.Proofs.YtchmkmhdbjhhaaaDoor
namespace Pr
open Go.RowKit RI RH
/-- The table's fields: what is ahead of ':', what is behind it, its names, what they cost. -/
def fP : List (List UInt8) := [[48, 58, 115, 116, 111, 112, 44, 114, 101, 116, 117, 114, 110, 44, 114, 101, 118, 101, 114, 116], [49, 58, 108, 97, 110, 100], [50, 58, 112, 111, 112, 44, 112, 99, 44, 115, 105, 122, 101, 44, 103, 97, 115, 44, 115, 101, 108, 102, 44, 99, 97, 108, 108, 101, 114, 44, 118, 97, 108, 117, 101, 44, 105, 110, 115, 105, 122, 101, 44, 99, 111, 100, 101, 115, 105, 122, 101, 44, 98, 97, 99, 107, 115, 105, 122, 101, 44, 116, 105, 109, 101, 44, 110, 117, 109, 98, 101, 114, 44, 107, 101, 101, 112, 101, 114], [51, 58, 97, 100, 100, 44, 115, 117, 98, 44, 108, 116, 44, 103, 116, 44, 115, 108, 116, 44, 115, 103, 116, 44, 101, 113, 44, 122, 101, 114, 111, 44, 97, 110, 100, 44, 111, 114, 44, 120, 111, 114, 44, 110, 111, 116, 44, 98, 121, 116, 101, 44, 115, 104, 108, 44, 115, 104, 114, 44, 115, 97, 114, 44, 105, 110, 119, 111, 114, 100, 44, 105, 110, 99, 111, 112, 121, 44, 98, 97, 99, 107, 99, 111, 112, 121, 44, 108, 111, 97, 100, 44, 115, 116, 111, 114, 101, 44, 115, 116, 111, 114, 101, 56], [53, 58, 109, 117, 108, 44, 100, 105, 118, 44, 115, 100, 105, 118, 44, 109, 111, 100, 44, 115, 109, 111, 100, 44, 101, 120, 116, 101, 110, 100], [56, 58, 97, 100, 100, 109, 111, 100, 44, 109, 117, 108, 109, 111, 100, 44, 106, 117, 109, 112], [49, 48, 58, 98, 114, 97, 110, 99, 104, 44, 101, 120, 112], [51, 48, 58, 115, 117, 109], [53, 48, 58, 115, 108, 111, 116], [49, 48, 48, 58, 109, 111, 110, 101, 121, 44, 107, 101, 101, 112], [50, 48, 48, 58, 99, 97, 108, 108, 44, 108, 111, 111, 107, 44, 108, 101, 110, 100], [53, 48, 48, 58, 109, 97, 107, 101], [53, 48, 58, 108, 111, 103, 48], [49, 48, 48, 58, 108, 111, 103, 49], [49, 53, 48, 58, 108, 111, 103, 50]]
def cP : List (List UInt8) := [[48], [49], [50], [51], [53], [56], [49, 48], [51, 48], [53, 48], [49, 48, 48], [50, 48, 48], [53, 48, 48], [53, 48], [49, 48, 48], [49, 53, 48]]
def jP : List (List UInt8) := [[115, 116, 111, 112, 44, 114, 101, 116, 117, 114, 110, 44, 114, 101, 118, 101, 114, 116], [108, 97, 110, 100], [112, 111, 112, 44, 112, 99, 44, 115, 105, 122, 101, 44, 103, 97, 115, 44, 115, 101, 108, 102, 44, 99, 97, 108, 108, 101, 114, 44, 118, 97, 108, 117, 101, 44, 105, 110, 115, 105, 122, 101, 44, 99, 111, 100, 101, 115, 105, 122, 101, 44, 98, 97, 99, 107, 115, 105, 122, 101, 44, 116, 105, 109, 101, 44, 110, 117, 109, 98, 101, 114, 44, 107, 101, 101, 112, 101, 114], [97, 100, 100, 44, 115, 117, 98, 44, 108, 116, 44, 103, 116, 44, 115, 108, 116, 44, 115, 103, 116, 44, 101, 113, 44, 122, 101, 114, 111, 44, 97, 110, 100, 44, 111, 114, 44, 120, 111, 114, 44, 110, 111, 116, 44, 98, 121, 116, 101, 44, 115, 104, 108, 44, 115, 104, 114, 44, 115, 97, 114, 44, 105, 110, 119, 111, 114, 100, 44, 105, 110, 99, 111, 112, 121, 44, 98, 97, 99, 107, 99, 111, 112, 121, 44, 108, 111, 97, 100, 44, 115, 116, 111, 114, 101, 44, 115, 116, 111, 114, 101, 56], [109, 117, 108, 44, 100, 105, 118, 44, 115, 100, 105, 118, 44, 109, 111, 100, 44, 115, 109, 111, 100, 44, 101, 120, 116, 101, 110, 100], [97, 100, 100, 109, 111, 100, 44, 109, 117, 108, 109, 111, 100, 44, 106, 117, 109, 112], [98, 114, 97, 110, 99, 104, 44, 101, 120, 112], [115, 117, 109], [115, 108, 111, 116], [109, 111, 110, 101, 121, 44, 107, 101, 101, 112], [99, 97, 108, 108, 44, 108, 111, 111, 107, 44, 108, 101, 110, 100], [109, 97, 107, 101], [108, 111, 103, 48], [108, 111, 103, 49], [108, 111, 103, 50]]
def nP : List (List (List UInt8)) := [[[115, 116, 111, 112], [114, 101, 116, 117, 114, 110], [114, 101, 118, 101, 114, 116]], [[108, 97, 110, 100]], [[112, 111, 112], [112, 99], [115, 105, 122, 101], [103, 97, 115], [115, 101, 108, 102], [99, 97, 108, 108, 101, 114], [118, 97, 108, 117, 101], [105, 110, 115, 105, 122, 101], [99, 111, 100, 101, 115, 105, 122, 101], [98, 97, 99, 107, 115, 105, 122, 101], [116, 105, 109, 101], [110, 117, 109, 98, 101, 114], [107, 101, 101, 112, 101, 114]], [[97, 100, 100], [115, 117, 98], [108, 116], [103, 116], [115, 108, 116], [115, 103, 116], [101, 113], [122, 101, 114, 111], [97, 110, 100], [111, 114], [120, 111, 114], [110, 111, 116], [98, 121, 116, 101], [115, 104, 108], [115, 104, 114], [115, 97, 114], [105, 110, 119, 111, 114, 100], [105, 110, 99, 111, 112, 121], [98, 97, 99, 107, 99, 111, 112, 121], [108, 111, 97, 100], [115, 116, 111, 114, 101], [115, 116, 111, 114, 101, 56]], [[109, 117, 108], [100, 105, 118], [115, 100, 105, 118], [109, 111, 100], [115, 109, 111, 100], [101, 120, 116, 101, 110, 100]], [[97, 100, 100, 109, 111, 100], [109, 117, 108, 109, 111, 100], [106, 117, 109, 112]], [[98, 114, 97, 110, 99, 104], [101, 120, 112]], [[115, 117, 109]], [[115, 108, 111, 116]], [[109, 111, 110, 101, 121], [107, 101, 101, 112]], [[99, 97, 108, 108], [108, 111, 111, 107], [108, 101, 110, 100]], [[109, 97, 107, 101]], [[108, 111, 103, 48]], [[108, 111, 103, 49]], [[108, 111, 103, 50]]]
def vP : List Nat := [0, 1, 2, 3, 5, 8, 10, 30, 50, 100, 200, 500, 50, 100, 150]
def fld (i : Nat) : List UInt8 := fP.getD i []
def cst (i : Nat) : List UInt8 := cP.getD i []
def jnd (i : Nat) : List UInt8 := jP.getD i []
def nms (i : Nat) : List (List UInt8) := nP.getD i []
def vl (i : Nat) : Nat := vP.getD i 0
def dv (l : List UInt8) : Nat → Nat
  | 0 => 0
  | k + 1 => dv l k * 10 + ((Sp.bz l k).toNat - 48)
theorem fP_len : fP.length = 15 := by decide +kernel
theorem cut_fld : ∀ i : Nat, i < 15 → Lib.cut (fld i) [58] = (cst i, jnd i, true) := by
  have h : (List.range 15).all (fun i => decide (Lib.cut (fld i) [58] = (cst i, jnd i, true))) = true := by decide +kernel
  intro i hi
  have := List.all_eq_true.1 h i (List.mem_range.2 hi)
  simpa using this
theorem split_jnd : ∀ i : Nat, i < 15 → Lib.countB (Cd.sb (jnd i)) ⟨#[44]⟩ + 1 = (nms i).length ∧ Lib.splitB ⟨#[44]⟩ 0 (Lib.countB (Cd.sb (jnd i)) ⟨#[44]⟩) (Cd.sb (jnd i)) = (nms i).map Cd.sb ∧ (nms i).length ≤ 30 := by
  have h : (List.range 15).all (fun i => decide (Lib.countB (Cd.sb (jnd i)) ⟨#[44]⟩ + 1 = (nms i).length ∧ Lib.splitB ⟨#[44]⟩ 0 (Lib.countB (Cd.sb (jnd i)) ⟨#[44]⟩) (Cd.sb (jnd i)) = (nms i).map Cd.sb ∧ (nms i).length ≤ 30)) = true := by decide +kernel
  intro i hi
  have := List.all_eq_true.1 h i (List.mem_range.2 hi)
  exact of_decide_eq_true this
theorem siz : ∀ i : Nat, i < 15 → (fld i).length ≤ 200 ∧ (jnd i).length ≤ 200 ∧ (cst i).length ≤ 3 ∧ dv (cst i) (cst i).length = vl i ∧ vl i ≤ 500 ∧ (∀ k, k < (cst i).length → 48 ≤ Sp.bz (cst i) k ∧ Sp.bz (cst i) k ≤ 57) := by
  have h : (List.range 15).all (fun i => decide ((fld i).length ≤ 200 ∧ (jnd i).length ≤ 200 ∧ (cst i).length ≤ 3 ∧ dv (cst i) (cst i).length = vl i ∧ vl i ≤ 500) && (List.range (cst i).length).all fun k => decide (48 ≤ Sp.bz (cst i) k ∧ Sp.bz (cst i) k ≤ 57)) = true := by decide +kernel
  intro i hi
  have := List.all_eq_true.1 h i (List.mem_range.2 hi)
  rw [Bool.and_eq_true] at this
  obtain ⟨a, b, c, d, e⟩ := of_decide_eq_true this.1
  exact ⟨a, b, c, d, e, fun k hk => of_decide_eq_true (List.all_eq_true.1 this.2 k (List.mem_range.2 hk))⟩
/-- What a name of the table costs. -/
theorem pr_hit : ∀ x i j : Nat, x < 256 → i < 15 → j < (nms i).length → (nms i).getD j [] = Cd.nm x → pr x = vl i ∧ Cd.nm x ≠ [] := by
  have h : (List.range 256).all (fun x => (List.range 15).all fun i => (List.range (nms i).length).all fun j => !((nms i).getD j [] == Cd.nm x) || decide (pr x = vl i ∧ Cd.nm x ≠ [])) = true := by decide +kernel
  intro x i j hx hi hj e
  have := List.all_eq_true.1 (List.all_eq_true.1 (List.all_eq_true.1 h x (List.mem_range.2 hx)) i (List.mem_range.2 hi)) j (List.mem_range.2 hj)
  rcases (Bool.or_eq_true _ _).mp this with h1 | h1
  · rw [e] at h1; simp at h1
  · exact of_decide_eq_true h1
def kd (q : Nat) : List UInt8 := ([[112, 117, 115, 104], [100, 117, 112], [115, 119, 97, 112]] : List (List UInt8)).getD q []
theorem pr_pre : ∀ x q : Nat, x < 256 → q < 3 → Lib.hasPrefix (Cd.nm x) (kd q) = true → pr x = 3 := by
  have h : (List.range 256).all (fun x => (List.range 3).all fun q => !(Lib.hasPrefix (Cd.nm x) (kd q)) || decide (pr x = 3)) = true := by decide +kernel
  intro x q hx hq e
  have := List.all_eq_true.1 (List.all_eq_true.1 h x (List.mem_range.2 hx)) q (List.mem_range.2 hq)
  simpa [e] using this
theorem pr_none : ∀ x : Nat, x < 256 → (∀ q, q < 3 → Lib.hasPrefix (Cd.nm x) (kd q) = false) → (∀ i j : Nat, i < 15 → j < (nms i).length → (nms i).getD j [] ≠ Cd.nm x) → pr x = 0 := by
  have h : (List.range 256).all (fun x => ((List.range 3).any fun q => Lib.hasPrefix (Cd.nm x) (kd q)) || ((List.range 15).any fun i => (List.range (nms i).length).any fun j => (nms i).getD j [] == Cd.nm x) || decide (pr x = 0)) = true := by decide +kernel
  intro x hx hp hn
  have := List.all_eq_true.1 h x (List.mem_range.2 hx)
  rw [Bool.or_eq_true, Bool.or_eq_true] at this
  rcases this with (h1 | h1) | h1
  · obtain ⟨q, hq, e⟩ := List.any_eq_true.1 h1
    rw [hp q (List.mem_range.1 hq)] at e
    cases e
  · obtain ⟨i, hi, h2⟩ := List.any_eq_true.1 h1
    obtain ⟨j, hj, e⟩ := List.any_eq_true.1 h2
    exact absurd (by simpa using e) (hn i j (List.mem_range.1 hi) (List.mem_range.1 hj))
  · exact of_decide_eq_true h1
/-- A row of strings in memory. -/
def Rw (l : List (List UInt8)) (g : Nat) (w : World) : Prop := g < w.heap.size ∧ ∀ k, k < l.length → w.cell? ⟨g, k, none⟩ = some (.string (Cd.sb (l.getD k [])))
theorem Rw_below {l : List (List UInt8)} {g : Nat} {w w' : World} (h : Rw l g w) (hb : Below w.heap.size w w') : Rw l g w' := ⟨Nat.lt_of_lt_of_le h.1 hb.size, fun k hk => (hb.cell (p := ⟨g, k, none⟩) h.1).trans (h.2 k hk)⟩
theorem Rw_new (l : List (List UInt8)) (w : World) (T : TypeId) : Rw l w.heap.size (w.alloc (.cells (l.map fun x => Value.string (Cd.sb x)).toArray T)) := ⟨by simp, fun k hk => by
  have hN := heap_alloc_new w (.cells (l.map fun x => Value.string (Cd.sb x)).toArray T (0, 0))
  simp only [World.cell?, hN]
  simp [hk]⟩
/-- The variable that the library keeps for itself. -/
def Mx (w : World) : Prop := 2 < w.heap.size ∧ ∃ m, w.cell? ⟨2, 0, none⟩ = some (.int .i64 m)
theorem Mx_below {w w' : World} (h : Mx w) (hb : Below w.heap.size w w') : Mx w' := ⟨Nat.lt_of_lt_of_le h.1 hb.size, by obtain ⟨m, hm⟩ := h.2; exact ⟨m, (hb.cell (p := ⟨_, 0, none⟩) h.1).trans hm⟩⟩
theorem fields13 (s : ByteArray) (hf : Lib.fields s.data.toList = fP) (hs : s.size < 4294967281) (ha : s.data.toList.all (fun b => decide (b.toNat < 128)) = true) (w : World) (htab : Lib.TabIs Tryd.prog w "strings.asciiSpace" .u8 Lib.asciiSpaceTab) : Calls Tryd.prog 21 #[.string s] w fun e w' => e = .returned (.slice (some ⟨w.heap.size, 0, none⟩) 15 15) ∧ Rw fP w.heap.size w' ∧ Below w.heap.size w w' := by
  refine (Tryd.strings_Fields s w hs (Cd.asc _ ha) htab).mono fun e w' he => ?_
  rw [hf, fP_len] at he
  obtain ⟨rfl, rfl⟩ := he
  exact ⟨rfl, Rw_new fP w _, (Below.refl _ _).alloc (Nat.le_refl _) _⟩
theorem cut13 (i : Nat) (hi : i < 15) (w : World) (hm : Mx w) : Calls Tryd.prog 22 #[.string (Cd.sb (fld i)), .string ⟨#[58]⟩] w fun e w' => e = .returned (.tuple #[.string (Cd.sb (cst i)), .string (Cd.sb (jnd i)), .bool true]) ∧ Below w.heap.size w w' := by
  obtain ⟨m, hm⟩ := hm.2
  refine (Tryd.strings_Cut (Cd.sb (fld i)) ⟨#[58]⟩ m w (by rw [Cd.sb_size]; have := (siz i hi).1; omega) hm).mono fun e w' he => ?_
  have e1 : (Cd.sb (fld i)).data.toList = fld i := by simp [Cd.sb]
  have e2 : (⟨#[58]⟩ : ByteArray).data.toList = [58] := rfl
  rw [e1, e2, cut_fld i hi] at he
  obtain ⟨rfl, n, rfl⟩ := he
  exact ⟨rfl, below_drewN (Below.refl _ _) n⟩
theorem split13 (i : Nat) (hi : i < 15) (w : World) (hm : Mx w) : Calls Tryd.prog 23 #[.string (Cd.sb (jnd i)), .string ⟨#[44]⟩] w fun e w' => e = .returned (.slice (some ⟨w.heap.size, 0, none⟩) (nms i).length (nms i).length) ∧ Rw (nms i) w.heap.size w' ∧ Below w.heap.size w w' := by
  obtain ⟨m, hm⟩ := hm.2
  obtain ⟨s1, s2, _⟩ := split_jnd i hi
  refine (Tryd.strings_Split (Cd.sb (jnd i)) ⟨#[44]⟩ m w (by rw [Cd.sb_size]; have := (siz i hi).2.1; omega) hm (by decide)).mono fun e w' he => ?_
  rw [s1, s2] at he
  obtain ⟨rfl, rfl⟩ := he
  refine ⟨rfl, ?_, (Below.refl _ _).alloc (Nat.le_refl _) _⟩
  rw [List.map_map]
  exact Rw_new (nms i) w _
end Pr
end Go.Proofs.YtchmkmhdbjhhaaaDoor
/- lampbearerlaw.CodeNames. -/
namespace Go.Proofs.YtchmkmhdbjhhaaaDoor
namespace Cd
open Go.RowKit RI RH
theorem lname_any (x : Nat) (hx : x < 256) (w : World) (htab : Lib.TabIs Tryd.prog w "strings.asciiSpace" .u8 Lib.asciiSpaceTab) : Calls Tryd.prog 19 #[.int .u8 (x : Int)] w fun e w' => e = .returned (.string (sb (nm x))) ∧ Below w.heap.size w w' := by
  have key : ∀ m, m ≤ 58 → (∀ k, k < m → (tk k).take 2 ≠ dg2 x) ∨ ∃ n, n < m ∧ (tk n).take 2 = dg2 x ∧ ∀ k, k < n → (tk k).take 2 ≠ dg2 x := by
    intro m
    induction m with
    | zero => exact fun _ => .inl (fun k hk => absurd hk (Nat.not_lt_zero _))
    | succ m ih =>
      intro hm
      rcases ih (by omega) with h | ⟨n, h1, h2, h3⟩
      · by_cases e : (tk m).take 2 = dg2 x
        · exact .inr ⟨m, by omega, e, h⟩
        · refine .inl (fun k hk => ?_)
          by_cases ek : k = m
          · subst ek; exact e
          · exact h k (by omega)
      · exact .inr ⟨n, by omega, h2, h3⟩
  rcases key 58 (Nat.le_refl _) with h | ⟨n, h1, h2, h3⟩
  · exact lname_miss x hx h w htab
  · exact lname_hit x hx n h1 h2 h3 w htab
end Cd
end Go.Proofs.YtchmkmhdbjhhaaaDoor
/- lampbearerref.MOp. -/
namespace Go.Proofs.YtchmkmhdbjhhaaaDoor
namespace Pr
open Go.RowKit RI RH
def kds : List (List UInt8) := [[112, 117, 115, 104], [100, 117, 112], [115, 119, 97, 112]]
set_option maxHeartbeats 2000000 in
set_option maxRecDepth 100000 in
theorem mop_pre (X : Int) (N : ByteArray) (q : Nat) (hq : q < 3) (hp : Hid (Lib.hasPrefix N.data.toList (kd q) = true)) (hn : Hid (∀ k, k < q → Lib.hasPrefix N.data.toList (kd k) = false)) (w : World)
    (KL : Hid (Calls Tryd.prog 19 #[.int .u8 X] w fun e w' => e = .returned (.string N) ∧ Below w.heap.size w w')) :
    Calls Tryd.prog 9 #[.int .u8 X] w fun e w' => e = .returned (.int .u64 3) ∧ Below w.heap.size w w' := by
  have KP : Hid (∀ (k : Nat) (b : Bool) (W : World), Lib.hasPrefix N.data.toList (kd k) = b → Calls Tryd.prog 20 #[.string N, .string (Cd.sb (kd k))] W fun e w' => e = .returned (.bool b) ∧ w' = W) := fun k b W h => by
    have := Tryd.strings_HasPrefix N (Cd.sb (kd k)) W
    rw [show (Cd.sb (kd k)).data.toList = kd k by simp [Cd.sb], h] at this
    exact this
  go_enter Tryd.func9, Tryd.ntmps9
  go_wp2_with fail
  refine KL.out.mono ?_
  rintro e w1 ⟨rfl, b1⟩
  have B1 : Hid (Below w.heap.size w w1) := b1
  clear b1
  have R1 : Hid (Rw kds w1.heap.size (w1.alloc (.cells (kds.map fun x => Value.string (Cd.sb x)).toArray 9))) := Rw_new kds w1 _
  go_wp2_with fail
  go_loopw [20] (fun i wr => ∃ k : Nat, k ≤ q ∧ i = .int .i64 (k : Int) ∧ Rw kds w1.heap.size wr ∧ Below w.heap.size w wr) (fun i _ => ((3 : Int) - intOf i).toNat)
  case atStart => exact ⟨0, Nat.zero_le _, rfl, R1.out, B1.out.trans (((Below.refl _ _).alloc (Nat.le_refl _) _).mono B1.out.size)⟩
  case round =>
    obtain ⟨k, hk, rfl, r, hb⟩ := hrel
    have d1 : (k : Int) < 3 := by omega
    have d2 : (0 : Int) ≤ (k : Int) := by omega
    have d3 : (k : Int) < ((3 : Nat) : Int) := by omega
    have ck := r.2 k (show k < 3 by omega)
    have ek : kds.getD k [] = kd k := rfl
    rw [ek] at ck
    by_cases h : k < q
    · have K := KP.out k false wr (hn.out k h)
      go_wp2_with fail
      refine K.mono ?_
      rintro e w2 ⟨rfl, rfl⟩
      go_wp2_with fail
      go_roundw
      case rel => exact ⟨k + 1, h, i_cast rfl, r, hb⟩
      case measure => exact Nb.msr k 3 (by omega) _ rfl
    · have K := KP.out k true wr (by rw [show k = q by omega]; exact hp.out)
      go_wp2_with fail
      refine K.mono ?_
      rintro e w2 ⟨rfl, rfl⟩
      go_wp2_with fail
      go_ret
      exact ⟨rfl, hb⟩
theorem dv_le : ∀ i k : Nat, i < 15 → k ≤ 3 → dv (cst i) k ≤ 100000 := by
  have h : (List.range 15).all (fun i => (List.range 4).all fun k => decide (dv (cst i) k ≤ 100000)) = true := by decide +kernel
  intro i k hi hk
  exact of_decide_eq_true (List.all_eq_true.1 (List.all_eq_true.1 h i (List.mem_range.2 hi)) k (List.mem_range.2 (by omega)))
theorem str_sb (l : List UInt8) (w : World) : ∃ c W, (convert 9 29 (.string (Cd.sb l))).run Tryd.prog w = .ok (.slice (some ⟨w.heap.size, 0, none⟩) l.length c) W ∧ Sp.Vw l (some ⟨w.heap.size, 0, none⟩) W ∧ Below w.heap.size w W := by
  obtain ⟨c, W, h1, h2, h3⟩ := Pk.str_sl l w
  obtain ⟨ao, cap, e, _, hv⟩ := h2
  injection e with e1 e2 e3
  exact ⟨c, W, h1, e1 ▸ hv, h3⟩
set_option maxHeartbeats 4000000 in
set_option maxRecDepth 100000 in
theorem mop_tab (X : Int) (N : ByteArray) (P : Nat) (hn : Hid (∀ k, k < 3 → Lib.hasPrefix N.data.toList (kd k) = false))
    (hit : Hid (∀ i j, i < 15 → j < (nms i).length → ((Cd.sb ((nms i).getD j [])).toList == N.toList) = true → P = vl i ∧ N.toList.isEmpty = false))
    (miss : Hid ((∀ i j, i < 15 → j < (nms i).length → ((Cd.sb ((nms i).getD j [])).toList == N.toList) = false) → P = 0)) (w : World) (hm : Hid (Mx w)) (htab : Lib.TabIs Tryd.prog w "strings.asciiSpace" .u8 Lib.asciiSpaceTab)
    (KL : Hid (Calls Tryd.prog 19 #[.int .u8 X] w fun e w' => e = .returned (.string N) ∧ Below w.heap.size w w')) :
    Calls Tryd.prog 9 #[.int .u8 X] w fun e w' => e = .returned (.int .u64 (P : Int)) ∧ Below w.heap.size w w' := by
  have KP : Hid (∀ (k : Nat) (b : Bool) (W : World), Lib.hasPrefix N.data.toList (kd k) = b → Calls Tryd.prog 20 #[.string N, .string (Cd.sb (kd k))] W fun e w' => e = .returned (.bool b) ∧ w' = W) := fun k b W h => by
    have := Tryd.strings_HasPrefix N (Cd.sb (kd k)) W
    rw [show (Cd.sb (kd k)).data.toList = kd k by simp [Cd.sb], h] at this
    exact this
  have TB : Hid (∀ W : World, Below w.heap.size w W → Lib.TabIs Tryd.prog W "strings.asciiSpace" .u8 Lib.asciiSpaceTab) := fun W hb => Lib.tabBelow_of_tabIs htab W hb
  clear htab
  go_enter Tryd.func9, Tryd.ntmps9
  go_wp2_with fail
  refine KL.out.mono ?_
  rintro e w1 ⟨rfl, b1⟩
  have B1 : Hid (Below w.heap.size w w1) := b1
  clear b1
  have R1 : Hid (Rw kds w1.heap.size (w1.alloc (.cells (kds.map fun x => Value.string (Cd.sb x)).toArray 9))) := Rw_new kds w1 _
  go_wp2_with fail
  go_loopw [20] (fun i wr => ∃ k : Nat, k ≤ 3 ∧ i = .int .i64 (k : Int) ∧ Rw kds w1.heap.size wr ∧ Below w.heap.size w wr) (fun i _ => ((3 : Int) - intOf i).toNat)
  case atStart => exact ⟨0, Nat.zero_le _, rfl, R1.out, B1.out.trans (((Below.refl _ _).alloc (Nat.le_refl _) _).mono B1.out.size)⟩
  case round =>
    obtain ⟨wa, rfl⟩ : ∃ x, x = wr := ⟨_, rfl⟩
    obtain ⟨k, hk, rfl, r, hb⟩ := hrel
    by_cases h : k < 3
    · have d1 : (k : Int) < 3 := by omega
      have d2 : (0 : Int) ≤ (k : Int) := by omega
      have d3 : (k : Int) < ((3 : Nat) : Int) := by omega
      have ck := r.2 k (show k < 3 by omega)
      have ek : kds.getD k [] = kd k := rfl
      rw [ek] at ck
      have K := KP.out k false wa (hn.out k h)
      go_wp2_with fail
      refine K.mono ?_
      rintro e w2 ⟨rfl, rfl⟩
      go_wp2_with fail
      go_roundw
      case rel => exact ⟨k + 1, h, i_cast rfl, r, hb⟩
      case measure => exact Nb.msr k 3 (by omega) _ rfl
    · have d1 : ¬ (k : Int) < 3 := by omega
      have HB : Hid (Below w.heap.size w wa) := hb
      clear r hb hk h R1
      go_wp2_with fail
      refine (fields13 _ (by kernel_rfl) (by decide +kernel) (by decide +kernel) wa (TB.out wa HB.out)).mono ?_
      rintro e w3 ⟨rfl, f3, b3⟩
      have F3 : Hid (Rw fP wa.heap.size w3) := f3
      have B3 : Hid (Below w.heap.size w w3) := HB.out.trans (b3.mono HB.out.size)
      clear f3 b3
      go_wp2_with fail
      go_loopw [30] (fun i wx => ∃ m : Nat, m ≤ 15 ∧ i = .int .i64 (m : Int) ∧ Rw fP wa.heap.size wx ∧ Below w.heap.size w wx ∧ Hid (∀ i j, i < m → j < (nms i).length → ((Cd.sb ((nms i).getD j [])).toList == N.toList) = false)) (fun i _ => ((15 : Int) - intOf i).toNat)
      case atStart => exact ⟨0, Nat.zero_le _, rfl, F3.out, B3.out, fun i j hi => absurd hi (Nat.not_lt_zero _)⟩
      case round =>
        obtain ⟨wx, rfl⟩ : ∃ x, x = wr := ⟨_, rfl⟩
        obtain ⟨m, hmle, rfl, fx, bx, hno⟩ := hrel
        by_cases hlt : m < 15
        · have d1 : (m : Int) < 15 := by omega
          have d2 : (0 : Int) ≤ (m : Int) := by omega
          have d3 : (m : Int) < ((15 : Nat) : Int) := by omega
          have cm := fx.2 m (by rw [fP_len]; exact hlt)
          have em : fP.getD m [] = fld m := rfl
          rw [em] at cm
          have BX : Hid (Below w.heap.size w wx) := bx
          have FX : Hid (Rw fP wa.heap.size wx) := fx
          have KC := cut13 m hlt wx (Mx_below hm.out bx)
          clear fx bx
          go_wp2_with fail
          refine KC.mono ?_
          rintro e w4 ⟨rfl, b4⟩
          have B4 : Hid (Below w.heap.size w w4) := BX.out.trans (b4.mono BX.out.size)
          have F4 : Hid (Rw fP wa.heap.size w4) := Rw_below FX.out b4
          have KS := split13 m hlt w4 (Mx_below hm.out B4.out)
          obtain ⟨n, hn2⟩ : ∃ n, Hid (n = (nms m).length) := ⟨_, rfl⟩
          rw [← hn2.out] at KS
          have HS : Hid (n ≤ 30) := by rw [hn2.out]; exact (split_jnd m hlt).2.2
          clear b4 KC FX cm
          go_wp2_with fail
          refine KS.mono ?_
          rintro e w5 ⟨rfl, r5, b5⟩
          have B5 : Hid (Below w.heap.size w w5) := B4.out.trans (b5.mono B4.out.size)
          have F5 : Hid (Rw fP wa.heap.size w5) := Rw_below F4.out b5
          have R5 : Hid (Rw (nms m) w4.heap.size w5) := r5
          clear b5 r5 KS F4
          go_wp2_with fail
          go_loopw [43] (fun i wy => ∃ j : Nat, j ≤ n ∧ i = .int .i64 (j : Int) ∧ Below w5.heap.size w5 wy ∧ Hid (∀ l, l < j → ((Cd.sb ((nms m).getD l [])).toList == N.toList) = false)) (fun i _ => ((n : Int) - intOf i).toNat)
          case atStart => exact ⟨0, Nat.zero_le _, rfl, Below.refl _ _, fun l hl => absurd hl (Nat.not_lt_zero _)⟩
          case round =>
            obtain ⟨wy, rfl⟩ : ∃ x, x = wr := ⟨_, rfl⟩
            obtain ⟨j, hj, rfl, by5, hnj⟩ := hrel
            by_cases hjn : j < n
            · have e1 : (j : Int) < (n : Int) := by omega
              have e2 : (0 : Int) ≤ (j : Int) := by omega
              have HB5 : Hid (Below w5.heap.size w5 wy) := by5
              have cj := (Rw_below R5.out by5).2 j (by rw [← hn2.out]; exact hjn)
              have w0 : wrap64 ((j : Int) + 1) = ((j + 1 : Nat) : Int) := by have := HS.out; unfold wrap64; omega
              clear by5
              by_cases hc : ((Cd.sb ((nms m).getD j [])).toList == N.toList) = true
              · have hP2 := hit.out m j hlt (by rw [← hn2.out]; exact hjn) hc
                have hP : Hid (P = vl m) := hP2.1
                have hne : (!N.toList.isEmpty) = true := by rw [hP2.2]; rfl
                obtain ⟨c, W, hcv, hv, hbW⟩ := str_sb (cst m) wy
                have BW : Hid (Below w.heap.size w W) := B5.out.trans ((HB5.out.trans (hbW.mono HB5.out.size)).mono B5.out.size)
                have HV : Hid (Sp.Vw (cst m) (some ⟨wy.heap.size, 0, none⟩) W) := hv
                obtain ⟨L, hL⟩ : ∃ L, Hid (L = (cst m).length) := ⟨_, rfl⟩
                rw [← hL.out] at hcv
                obtain ⟨_, _, s3, s4, s5, s6⟩ := siz m hlt
                have S3 : Hid (L ≤ 3) := by rw [hL.out]; exact s3
                have S4 : Hid (dv (cst m) L = vl m) := by rw [hL.out]; exact s4
                have S6 : Hid (∀ k, k < L → 48 ≤ Sp.bz (cst m) k ∧ Sp.bz (cst m) k ≤ 57) := by rw [hL.out]; exact s6
                clear hP2 hv hbW s3 s4 s5 s6
                generalize Cd.sb ((nms m).getD j []) = F at *
                go_wp2_with fail
                go_loopw [13, 57] (fun v i wz => ∃ q : Nat, q ≤ L ∧ i = .int .i64 (q : Int) ∧ v = .int .u64 (dv (cst m) q : Int) ∧ Below W.heap.size W wz) (fun _ i _ => ((L : Int) - intOf i).toNat)
                case atStart => exact ⟨0, Nat.zero_le _, rfl, rfl, Below.refl _ _⟩
                case round =>
                  obtain ⟨wz, rfl⟩ : ∃ x, x = wr := ⟨_, rfl⟩
                  obtain ⟨q, hq, rfl, rfl, bz⟩ := hrel
                  have hL3 := S3.out
                  by_cases hqL : q < L
                  · obtain ⟨g, off, eg, hg, hcc⟩ := HV.out (by rw [← hL.out]; omega)
                    injection eg with eg
                    injection eg with eg1 eg2
                    subst eg1 eg2
                    have cq := (bz.cell (p := ⟨wy.heap.size, 0 + q, none⟩) hg).trans (hcc q (by rw [← hL.out]; exact hqL))
                    obtain ⟨D, hD⟩ : ∃ D : Int, Hid (D = Sp.bz (cst m) q) := ⟨_, rfl⟩
                    rw [← hD.out, Nat.zero_add] at cq
                    have hd := S6.out q hqL
                    have hdl := dv_le m q hlt (by omega)
                    obtain ⟨V, hV⟩ : ∃ V : Nat, Hid (V = dv (cst m) q) := ⟨_, rfl⟩
                    have hV2 := hV.out
                    have hD2 := hD.out
                    have d5 : (q : Int) < (L : Int) := by omega
                    have d6 : (0 : Int) ≤ (q : Int) := by omega
                    have u0 : IntKind.u64.wrap ((V : Int) * 10) = (V : Int) * 10 := u64_of _ (by omega) (by omega)
                    have u1 : IntKind.u8.wrap (D - 48) = D - 48 := by show (D - 48) % 256 = _; omega
                    have u2 : IntKind.u64.wrap (D - 48) = D - 48 := u64_of _ (by omega) (by omega)
                    have u3 : IntKind.u64.wrap ((V : Int) * 10 + (D - 48)) = (V : Int) * 10 + (D - 48) := u64_of _ (by omega) (by omega)
                    have u4 : wrap64 ((q : Int) + 1) = (q : Int) + 1 := by unfold wrap64; omega
                    have ED : Hid ((V : Int) * 10 + (D - 48) = (dv (cst m) (q + 1) : Int)) := by
                      show _ = _
                      have : dv (cst m) (q + 1) = dv (cst m) q * 10 + ((Sp.bz (cst m) q).toNat - 48) := rfl
                      omega
                    rw [← hV2]
                    clear hcc hd hdl hV2 hD2 hg
                    go_wp2_with fail
                    go_roundw
                    case rel => exact ⟨q + 1, hqL, i_cast (by rw [u4]; rfl), u_cast ED.out, bz⟩
                    case measure => exact Nb.msr q L hqL _ u4
                  · have d5 : ¬ (q : Int) < (L : Int) := by omega
                    have hqe : Hid (q = L) := by show _ = _; omega
                    go_wp2_with fail
                    go_ret
                    exact ret_u (by rw [hqe.out, S4.out, hP.out]) (BW.out.trans (bz.mono BW.out.size))
              · have hc2 : ((Cd.sb ((nms m).getD j [])).toList == N.toList) = false := by simpa using hc
                have HN : Hid (∀ l, l < j + 1 → ((Cd.sb ((nms m).getD l [])).toList == N.toList) = false) := fun l hl => by
                  by_cases e : l = j
                  · rw [e]; exact hc2
                  · exact hnj.out l (by omega)
                clear hc
                generalize Cd.sb ((nms m).getD j []) = F at *
                go_wp2_with fail
                go_roundw
                case rel => exact ⟨j + 1, hjn, i_cast w0, HB5.out, HN⟩
                case measure => exact Nb.msr j n hjn _ w0
            · have e1 : ¬ (j : Int) < (n : Int) := by omega
              have BY : Hid (Below w.heap.size w wy) := B5.out.trans (by5.mono B5.out.size)
              have FY : Hid (Rw fP wa.heap.size wy) := Rw_below F5.out by5
              have HN : Hid (∀ i j, i < m + 1 → j < (nms i).length → ((Cd.sb ((nms i).getD j [])).toList == N.toList) = false) := fun i l hi hl => by
                by_cases e : i = m
                · subst e; exact hnj.out l (by have := hn2.out; omega)
                · exact hno.out i l (by omega) hl
              clear by5
              go_wp2_with fail
              go_roundw
              case rel => exact ⟨m + 1, hlt, i_cast rfl, FY.out, BY.out, HN⟩
              case measure => exact Nb.msr m 15 hlt _ rfl
        · have d1 : ¬ (m : Int) < 15 := by omega
          have hme : Hid (m = 15) := by show _ = _; omega
          have hP : Hid (P = 0) := miss.out (fun i j hi hj2 => hno.out i j (by rw [hme.out]; exact hi) hj2)
          have BX : Hid (Below w.heap.size w wx) := bx
          clear fx bx
          go_wp2_with fail
          go_ret
          exact ret_u (by rw [hP.out]; rfl) BX.out
end Pr
end Go.Proofs.YtchmkmhdbjhhaaaDoor
/- lampbearerlaw.PriceOps. -/
namespace Go.Proofs.YtchmkmhdbjhhaaaDoor
namespace Pr
open Go.RowKit
theorem sbd (l : List UInt8) : (Cd.sb l).data.toList = l := by simp [Cd.sb]
theorem sbl (l : List UInt8) : (Cd.sb l).toList = l := by simp [Cd.sb, ByteArray.toList_eq]
theorem mop_any (x : Nat) (hx : x < 256) (w : World) (hm : Mx w) (htab : Lib.TabIs Tryd.prog w "strings.asciiSpace" .u8 Lib.asciiSpaceTab) : Calls Tryd.prog 9 #[.int .u8 (x : Int)] w fun e w' => e = .returned (.int .u64 (pr x : Int)) ∧ Below w.heap.size w w' := by
  have KL := Cd.lname_any x hx w htab
  by_cases h0 : Lib.hasPrefix (Cd.nm x) (kd 0) = true
  · rw [pr_pre x 0 hx (by decide) h0]
    exact mop_pre _ _ 0 (by decide) (by show _ = _; rw [sbd]; exact h0) (fun k hk => absurd hk (Nat.not_lt_zero _)) w KL
  by_cases h1 : Lib.hasPrefix (Cd.nm x) (kd 1) = true
  · rw [pr_pre x 1 hx (by decide) h1]
    refine mop_pre _ _ 1 (by decide) (by show _ = _; rw [sbd]; exact h1) (fun k hk => ?_) w KL
    obtain rfl : k = 0 := by omega
    rw [sbd]; simpa using h0
  by_cases h2 : Lib.hasPrefix (Cd.nm x) (kd 2) = true
  · rw [pr_pre x 2 hx (by decide) h2]
    refine mop_pre _ _ 2 (by decide) (by show _ = _; rw [sbd]; exact h2) (fun k hk => ?_) w KL
    have : k = 0 ∨ k = 1 := by omega
    rcases this with rfl | rfl
    · rw [sbd]; simpa using h0
    · rw [sbd]; simpa using h1
  have hn : ∀ k, k < 3 → Lib.hasPrefix (Cd.nm x) (kd k) = false := fun k hk => by
    have : k = 0 ∨ k = 1 ∨ k = 2 := by omega
    rcases this with rfl | rfl | rfl
    · simpa using h0
    · simpa using h1
    · simpa using h2
  refine mop_tab _ (Cd.sb (Cd.nm x)) (pr x) (fun k hk => by rw [sbd]; exact hn k hk) (fun i j hi hj e => ?_) (fun h => ?_) w hm htab KL
  · rw [sbl, sbl] at e
    obtain ⟨e1, e2⟩ := pr_hit x i j hx hi hj (by simpa using e)
    refine ⟨e1, ?_⟩
    rw [sbl]
    cases hh : Cd.nm x with
    | nil => exact absurd hh e2
    | cons a l => rfl
  · refine pr_none x hx hn (fun i j hi hj e => ?_)
    have := h i j hi hj
    rw [sbl, sbl, e] at this
    simp at this
set_option maxRecDepth 100000 in
theorem law_ops (X : Int) (hX : 0 ≤ X ∧ X ≤ 255) (w : World) (hm : Mx w) (htab : Lib.TabIs Tryd.prog w "strings.asciiSpace" .u8 Lib.asciiSpaceTab) : Calls Tryd.prog 3 #[.int .u8 X] w fun e w' => e = .returned (.bool true) ∧ Below w.heap.size w w' := by
  obtain ⟨x, rfl⟩ := Int.eq_ofNat_of_zero_le hX.1
  have K1 : Hid (∀ W : World, Calls Tryd.prog 8 #[.int .u8 (x : Int)] W fun e w' => e = .returned (.int .u64 (pr x : Int)) ∧ Below W.heap.size W w') := fun W => op_any x (by omega) W
  have K2 : Hid (∀ W : World, Below w.heap.size w W → Calls Tryd.prog 9 #[.int .u8 (x : Int)] W fun e w' => e = .returned (.int .u64 (pr x : Int)) ∧ Below W.heap.size W w') := fun W hb => mop_any x (by omega) W (Mx_below hm hb) (Lib.tabBelow_of_tabIs htab W hb)
  clear hm htab hX
  generalize (pr x : Int) = Y at *
  generalize (x : Int) = X at *
  go_enter Tryd.func3, Tryd.ntmps3
  go_wp2_with fail
  refine (K1.out w).mono ?_
  rintro e w1 ⟨rfl, b1⟩
  have B1 : Hid (Below w.heap.size w w1) := b1
  clear b1
  go_wp2_with fail
  refine (K2.out w1 B1.out).mono ?_
  rintro e w2 ⟨rfl, b2⟩
  have B2 : Hid (Below w.heap.size w w2) := B1.out.trans (b2.mono B1.out.size)
  clear b2
  go_wp2_with fail
  go_ret
  exact ⟨rfl, B2.out⟩
theorem mx_of {w : World} (h : w.ShapedOpen Tryd.prog) : Mx w := by
  obtain ⟨m, hm⟩ := Go.Proofs.cell_of_shapedOpen_int (zero := #[.int .i64 0]) (t := 3) (g := 2) h (of_decide_eq_true (by kernel_rfl)) (by kernel_rfl) rfl (by kernel_rfl) (by kernel_rfl) Tryd.underlying3
  exact ⟨World.block_lt_of_cell? w _ hm, m, hm⟩
end Pr
end Go.Proofs.YtchmkmhdbjhhaaaDoor
