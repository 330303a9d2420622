import Derived.Test.YtefgamhnikeekaaDoorPackE
import Derived.Test.YtefgamhnikeekaaDoorPackF
import Derived.Test.YtefgamhnikeekaaDoorPackD
import Derived.Deep.MidRow
import Derived.Test.YtefgamhnikeekaaDoorPackA
import Derived.Lib.ConvBytes
import Derived.Laws.Concat
import Derived.Deep.AppendLies
import Derived.Deep.Cut
namespace Go.Proofs.YtefgamhnikeekaaDoor
namespace Rt
open Nb Sp Pk Rs Go.RowKit
def CO (B : Nat) (X : Nat → Prop) (l : List (List UInt8)) (v : Value) (w : World) : Prop :=
  ∃ hs : List Value, hs.length = l.length ∧ w.ownsRow B 22 1 v l.length hs ∧ ∀ j, j < l.length → Ty (fun k => B ≤ k ∧ v.ownBlock ≠ some k ∧ X k) (l.getD j []) (hs.getD j undef) w
theorem CO_nil (B : Nat) (X : Nat → Prop) (w : World) : CO B X [] (.slice none 0 0) w := ⟨[], rfl, World.ownsRow_nil _ _ _ _, fun j hj => absurd hj (by simp)⟩
theorem CO_form {B : Nat} {X : Nat → Prop} {l : List (List UInt8)} {v : Value} {w : World} (h : CO B X l v w) : ∃ a c, v = .slice a l.length c ∧ l.length ≤ c := by
  obtain ⟨hs, _, ho, _⟩ := h
  rcases ho.2 with ⟨h3, h4⟩ | ⟨g, cap, cur, h3, _, _, h6, _⟩
  · exact ⟨none, 0, by rw [h4]; exact h3, by omega⟩
  · exact ⟨_, cap, h3, h6⟩
theorem CO_lt {B : Nat} {X : Nat → Prop} {l : List (List UInt8)} {v : Value} {w : World} (h : CO B X l v w) : ∀ g, v.ownBlock = some g → B ≤ g ∧ g < w.heap.size := by
  obtain ⟨hs, _, ho, _⟩ := h
  exact ho.lt
theorem CO_below {B : Nat} {X : Nat → Prop} {l : List (List UInt8)} {v : Value} {w w' : World} (h : CO B X l v w) (hb : Below w.heap.size w w') : CO B X l v w' := by
  obtain ⟨hs, hl, ho, ht⟩ := h
  exact ⟨hs, hl, ownb ho hb, fun j hj => Ty_gb (r := none) (ht j hj) (gb_below hb) (fun _ _ => nofun)⟩
theorem CO_mono {B : Nat} {X Y : Nat → Prop} {l : List (List UInt8)} {v : Value} {w : World} (h : CO B X l v w) (hY : ∀ k, B ≤ k → k < w.heap.size → X k → Y k) : CO B Y l v w := by
  obtain ⟨hs, hl, ho, ht⟩ := h
  exact ⟨hs, hl, ho, fun j hj => Ty_mono (ht j hj) (fun k hk h2 => ⟨hk.1, hk.2.1, hY k hk.1 h2 hk.2.2⟩)⟩
theorem CO_gb {B : Nat} {X : Nat → Prop} {l : List (List UInt8)} {v : Value} {w w' : World} {r : Option Nat} (h : CO B X l v w) (hg : w.grownBy w' r) (hv : ∀ k, v.ownBlock = some k → some k ≠ r) (hX : ∀ k, B ≤ k → X k → some k ≠ r) : CO B X l v w' := by
  obtain ⟨hs, hl, ho, ht⟩ := h
  refine ⟨hs, hl, ho.kept hg ?_, fun j hj => Ty_gb (ht j hj) hg (fun k hk => hX k hk.1 hk.2.2)⟩
  cases e : v.ownBlock with
  | none => exact .inl rfl
  | some t => exact .inr (fun hh => hv t e hh)
theorem CO_ls {B : Nat} {X : Nat → Prop} {l : List (List UInt8)} {v : Value} {w : World} (h : CO B X l v w) : Ls l v w := by
  obtain ⟨hs, hl, ho, ht⟩ := h
  exact own_ls (by rw [hl]; exact ho) ⟨hl, fun i hi => Ty_sl (ht i hi)⟩
theorem CO_heads {B : Nat} {X : Nat → Prop} {l : List (List UInt8)} {v : Value} {w : World} (h : CO B X l v w) : ∃ hs : List Value, hs.length = l.length ∧ Vl hs v w ∧ ∀ j, j < l.length → Ty (fun k => B ≤ k ∧ v.ownBlock ≠ some k ∧ X k) (l.getD j []) (hs.getD j undef) w := by
  obtain ⟨hs, hl, ho, ht⟩ := h
  refine ⟨hs, hl, ?_, ht⟩
  rcases ho.2 with ⟨h3, h4⟩ | ⟨g, cap, cur, h3, h4, h5, h6, h7, h8, h9⟩
  · exact ⟨none, 0, by rw [hl, h4]; exact h3, fun h0 => by omega⟩
  · refine ⟨some ⟨g, 0, none⟩, cap, by rw [hl]; exact h3, fun _ => ⟨g, 0, rfl, Pk.lt_of_heap h5, fun j hj => ?_⟩⟩
    have e : w.cell? ⟨g, 0 + j, none⟩ = cur[j]? := by
      rw [Nat.zero_add]
      simp only [World.cell?, h5]
      exact if_neg (by simp)
    rw [e, ← Array.getElem?_toList, ← h9, List.getElem?_take]
    exact (if_pos (by omega)).symm
theorem ty_one {S : Nat → Prop} {b : List UInt8} {v : Value} {w : World} (h : Ty S b v w) : v.oneCell' = true := by
  obtain ⟨ao, cap, e, _⟩ := h
  rw [e]
  rfl
set_option maxRecDepth 100000 in
theorem CO_app {B : Nat} {X : Nat → Prop} {l m : List (List UInt8)} {v vb : Value} {ys : List Value} {w : World} (ty : TypeId) (h : CO B X l v w) (hv : Vl ys vb w) (hl : ys.length = m.length)
    (ht : ∀ j, j < m.length → Ty (fun k => B ≤ k ∧ v.ownBlock ≠ some k ∧ X k) (m.getD j []) (ys.getD j undef) w) (hB : B ≤ w.heap.size) (hn : l.length + m.length ≤ 4194304) :
    ∃ v' w', (Builtin.append_ #[23, 23] ty #[v, vb]).run Tryd.prog w = .ok v' w' ∧ CO B X (l ++ m) v' w' ∧ w.grownBy w' v.ownBlock ∧ (∀ g, v'.ownBlock = some g → v.ownBlock = some g ∨ g = w.heap.size) := by
  obtain ⟨i0, hi, hz0, hz1, hz2⟩ := info_parts info_r
  obtain ⟨hs, hl0, ho, ht0⟩ := h
  have h1 : ∀ u ∈ ys, u.oneCell' = true := fun u hu => by
    obtain ⟨j, hj, rfl⟩ := List.getElem_of_mem hu
    have := ht j (by omega)
    rw [List.getD_eq_getElem?_getD (l := ys), List.getElem?_eq_getElem hj] at this
    exact ty_one this
  by_cases h0 : 0 < ys.length
  · obtain ⟨gv, off, cap, rfl, hc⟩ := vl_cells hv h0
    obtain ⟨G, cap', w', hr, h7, hgr, hG, _⟩ := run_append_lies (P := Tryd.prog) w 23 ty B 22 i0 (.slice none 0 0) 1 24 Tryd.underlying23 hi hz0 hz1 hz2 rfl (by decide) v l.length hs ho ⟨gv, off, none⟩ ys.length cap ys (by rw [Nat.mul_one]) hc h1 h0 (by unfold maxLen; omega) (by omega) hB _ rfl
    have hS : ∀ k, k < w.heap.size → v.ownBlock ≠ some k → (Value.slice (some ⟨G, 0, none⟩) (l.length + ys.length) cap').ownBlock ≠ some k := fun k hk hne e => by
      have e : G = k := by simpa [Value.ownBlock] using e
      subst e
      rcases hG with hG | hG
      · exact hne hG
      · omega
    refine ⟨_, w', hr, ⟨hs ++ ys, by rw [List.length_append, List.length_append, hl0, hl], ?_, fun j hj => ?_⟩, hgr, fun g hg => ?_⟩
    · rw [List.length_append, ← hl]; exact h7
    · rw [List.length_append] at hj
      by_cases e : j < l.length
      · have e1 : (l ++ m).getD j [] = l.getD j [] := by simp [List.getD_eq_getElem?_getD, List.getElem?_append_left e]
        have e2 : (hs ++ ys).getD j undef = hs.getD j undef := by simp [List.getD_eq_getElem?_getD, List.getElem?_append_left (hl0 ▸ e)]
        rw [e1, e2]
        exact Ty_mono (Ty_gb (Ty_mono (S' := fun k => (B ≤ k ∧ (Value.slice (some ⟨G, 0, none⟩) (l.length + ys.length) cap').ownBlock ≠ some k ∧ X k) ∧ v.ownBlock ≠ some k) (ht0 j e) (fun k hk h2 => ⟨⟨hk.1, hS k h2 hk.2.1, hk.2.2⟩, hk.2.1⟩)) hgr (fun k hk e => hk.2 e.symm)) (fun k hk _ => hk.1)
      · have e1 : (l ++ m).getD j [] = m.getD (j - l.length) [] := by simp [List.getD_eq_getElem?_getD, List.getElem?_append_right (show l.length ≤ j by omega)]
        have e2 : (hs ++ ys).getD j undef = ys.getD (j - l.length) undef := by simp [List.getD_eq_getElem?_getD, List.getElem?_append_right (show hs.length ≤ j by omega), hl0]
        rw [e1, e2]
        exact Ty_mono (Ty_gb (Ty_mono (S' := fun k => (B ≤ k ∧ (Value.slice (some ⟨G, 0, none⟩) (l.length + ys.length) cap').ownBlock ≠ some k ∧ X k) ∧ v.ownBlock ≠ some k) (ht (j - l.length) (by omega)) (fun k hk h2 => ⟨⟨hk.1, hS k h2 hk.2.1, hk.2.2⟩, hk.2.1⟩)) hgr (fun k hk e => hk.2 e.symm)) (fun k hk _ => hk.1)
    · have e : G = g := by simpa [Value.ownBlock] using hg
      subst e
      exact hG
  · have e : ys = [] := List.length_eq_zero_iff.1 (by omega)
    subst e
    have em : m = [] := List.length_eq_zero_iff.1 hl.symm
    subst em
    rw [List.append_nil]
    obtain ⟨ao, cap, rfl, _⟩ := hv
    refine ⟨v, w, ?_, ⟨hs, hl0, ho, ht0⟩, gb_refl w _, fun g hg => .inl hg⟩
    have hsr : Src Tryd.prog i0.size 23 (.slice ao 0 cap) 0 [] w := by
      cases ao with
      | none => exact Src.ofNil w Tryd.underlying23 cap
      | some ad => exact Src.ofSlice w Tryd.underlying23 ad 0 cap [] (by simp) (fun j u hj => by simp at hj) (fun u hu => by cases hu)
    rcases ho.2 with ⟨h3, h4⟩ | ⟨g', cap', cur, h3, h5⟩
    · subst h3
      exact run_append_nothing w 23 23 ty 22 i0 Tryd.underlying23 hi none 0 0 (Nat.le_refl _) _ hsr
    · subst h3
      exact run_append_nothing w 23 23 ty 22 i0 Tryd.underlying23 hi _ _ _ h5.2.2.1 _ hsr
end Rt
end Go.Proofs.YtefgamhnikeekaaDoor
namespace Go.Proofs.YtefgamhnikeekaaDoor
namespace Rs
open Nb Sp Pk Go.RowKit
set_option maxHeartbeats 2000000 in
set_option maxRecDepth 100000 in
theorem hcode2_walk (kk : Int) (a1 a2 a3 : Option Addr) (n1 c1 n2 c2 n3 c3 : Nat) (w : World) (R : Bool) (t : It) (ht : Hid (R = true → (enc t).length ≤ 1048576))
    (KS : Hid (∀ wx : World, Below w.heap.size w wx → Calls Tryd.prog 14 #[.agg #[.int .i64 kk, .slice a1 n1 c1, .slice a2 n2 c2, .slice a3 n3 c3]] wx fun e w' => ∃ v, e = .returned (.tuple #[v3 v, .bool R]) ∧ (R = true → Iv (fun _ => True) w' t v) ∧ Below wx.heap.size wx w' ∧ Fm v)) :
    Calls Tryd.prog 6 #[.agg #[.int .i64 kk, .slice a1 n1 c1, .slice a2 n2 c2, .slice a3 n3 c3]] w fun e w' => ∃ v, e = .returned (.tuple #[v, .int .i64 (if R then 0 else 1)]) ∧ Sl (if R then enc t else []) v w' ∧ Below w.heap.size w w' ∧ Nw w.heap.size v := by
  have HB : Hid (Below w.heap.size w (w.alloc (.cells #[.int .i64 kk, .slice a1 n1 c1, .slice a2 n2 c2, .slice a3 n3 c3] 25))) := (Below.refl _ _).alloc (Nat.le_refl _) _
  go_enter Tryd.func6, Tryd.ntmps6
  go_wp2_with fail
  refine (KS.out _ HB.out).mono ?_
  rintro e w1 ⟨v, rfl, hiv, hb, l, b1, m1, d1, b2, m2, d2, rfl⟩
  have HL1 : Hid (Below w.heap.size w w1) := HB.out.trans (hb.mono HB.out.size)
  cases R with
  | false =>
    have HL2 : Hid (Below w.heap.size w (w1.alloc (.cells #[.bool l, .slice b1 m1 d1, .slice b2 m2 d2] 44))) := HL1.out.alloc HL1.out.size _
    clear hiv hb KS HB HL1 ht
    dsimp only [v3]
    go_wp2_with fail
    go_ret2
    exact ⟨_, rfl, Sl_nil _, HL2.out, nofun⟩
  | true =>
    have bA : Below w1.heap.size w1 (w1.alloc (.cells #[.bool l, .slice b1 m1 d1, .slice b2 m2 d2] 44)) := (Below.refl _ _).alloc (Nat.le_refl _) _
    have HL2 : Hid (Below w.heap.size w (w1.alloc (.cells #[.bool l, .slice b1 m1 d1, .slice b2 m2 d2] 44))) := HL1.out.alloc HL1.out.size _
    have KE : Hid (Calls Tryd.prog 15 #[.agg #[.bool l, .slice b1 m1 d1, .slice b2 m2 d2]] (w1.alloc (.cells #[.bool l, .slice b1 m1 d1, .slice b2 m2 d2] 44)) fun e w' => ∃ v, e = .returned v ∧ Sl (enc t) v w' ∧ Below w.heap.size w w' ∧ Nw w.heap.size v) :=
      (pencode2_any t (ht.out rfl) (fun _ => True) (.bool l, .slice b1 m1 d1, .slice b2 m2 d2) _ (Iv_below (hiv rfl) bA)).mono fun e w' he => by
        obtain ⟨v, h1, h2, h3, h4⟩ := he
        exact ⟨v, h1, h2, HL2.out.trans (h3.mono HL2.out.size), fun a ha => Nat.le_trans HL2.out.size (h4 a ha)⟩
    clear hiv hb KS HB HL1 ht bA HL2
    dsimp only [v3]
    go_wp2_with fail
    refine KE.out.mono ?_
    rintro e w3 ⟨v, rfl, h2, h3, h4⟩
    have HZ : Hid (Sl (enc t) v w3 ∧ Below w.heap.size w w3 ∧ Nw w.heap.size v) := ⟨h2, h3, h4⟩
    clear h2 h3 h4 KE
    go_wp2_with fail
    go_ret2
    exact ⟨_, rfl, HZ.out.1, HZ.out.2⟩
theorem hcode2_any (s : Shp) (x : V4) (w : World) (h : Sh s x w) (hp : s.2.1.length ≤ 4194300) (hE : isS s = true → (enc (itS s)).length ≤ 1048576) :
    Calls Tryd.prog 6 #[v4 x] w fun e w' => ∃ v, e = .returned (.tuple #[v, .int .i64 (he s)]) ∧ Sl (hc s) v w' ∧ Below w.heap.size w w' ∧ Nw w.heap.size v := by
  obtain ⟨a1, c1, a2, c2, a3, c3, e⟩ := Sh_form h
  have KS := fun (wx : World) (hb : Below w.heap.size w wx) => shapeitem_any s x wx (Sh_below h hb) hp
  subst e
  exact hcode2_walk s.1 a1 a2 a3 _ c1 _ c2 _ c3 w (isS s) (itS s) hE (fun wx hb => (KS wx hb).mono fun e w' hh => by
    obtain ⟨v, h1, h2, h3⟩ := hh
    exact ⟨v, h1, h2, h3⟩)
end Rs
end Go.Proofs.YtefgamhnikeekaaDoor
namespace Go.Proofs.YtefgamhnikeekaaDoor
namespace Rs
open Nb Sp Pk Go.RowKit
theorem infoSh : (Tryd.prog.info? 25).map (·.size) = some 4 := by kernel_rfl
structure BS (G : Nat) (w : World) : Prop where
  hi : G < w.heap.size
  c : ∀ o, o < 4 → (w.cell? ⟨G, o, none⟩).isSome = true
  f : ∀ o, w.frozen? ⟨G, o, none⟩ = false
  n : ∀ o x, w.cell? ⟨G, o, none⟩ ≠ some (.int .u8 x)
theorem BS_nb {G : Nat} {w : World} (h : BS G w) : NB G w := ⟨h.hi, h.n⟩
theorem BS_gb {G : Nat} {w w' : World} {r : Option Nat} (h : BS G w) (hb : w.grownBy w' r) (hr : some G ≠ r) : BS G w' := by
  have hbk : w'.heap[G]? = w.heap[G]? := hb.block G h.hi hr
  exact ⟨Nat.lt_of_lt_of_le h.hi hb.size, fun o ho => by rw [World.cell?_of_block (a := ⟨G, o, none⟩) hbk]; exact h.c o ho, fun o => (World.frozen?_of_block (a := ⟨G, o, none⟩) hbk).trans (h.f o), fun o x => by rw [World.cell?_of_block (a := ⟨G, o, none⟩) hbk]; exact h.n o x⟩
theorem BS_new (w : World) : BS w.heap.size (w.alloc (.cells #[.int .i64 0, .slice none 0 0, .slice none 0 0, .slice none 0 0] 25)) := by
  have hn := heap_alloc_new w (.cells #[.int .i64 0, .slice none 0 0, .slice none 0 0, .slice none 0 0] 25)
  have hc : ∀ o, (w.alloc (.cells #[.int .i64 0, .slice none 0 0, .slice none 0 0, .slice none 0 0] 25)).cell? ⟨w.heap.size, o, none⟩ = (#[Value.int .i64 0, .slice none 0 0, .slice none 0 0, .slice none 0 0])[o]? := fun o => by
    simp only [World.cell?, hn]
    exact if_neg (by decide)
  refine ⟨by simp, fun o ho => ?_, fun o => by simp only [World.frozen?, hn]; simp, fun o x h => ?_⟩
  · rw [hc]
    have : o = 0 ∨ o = 1 ∨ o = 2 ∨ o = 3 := by omega
    rcases this with rfl | rfl | rfl | rfl <;> rfl
  · rw [hc] at h
    match o with
    | 0 => simp at h
    | 1 => simp at h
    | 2 => simp at h
    | 3 => simp at h
    | n + 4 => simp at h
theorem Sl_gb {G : Nat} {b : List UInt8} {v : Value} {w w' : World} (h : Sl b v w) (hG : NB G w) (hg : w.grownBy w' (some G)) : Sl b v w' := by
  obtain ⟨ao, cap, h1, h2, h3⟩ := h
  refine ⟨ao, cap, h1, h2, fun h0 => ?_⟩
  obtain ⟨g, off, e, hlt, hc⟩ := h3 h0
  have n1 : g ≠ G := fun e2 => by subst e2; exact hG.2 _ _ (hc 0 h0)
  exact ⟨g, off, e, Nat.lt_of_lt_of_le hlt hg.size, fun j hj => (World.cell?_of_block (a := ⟨g, off + j, none⟩) (hg.block g hlt (fun e3 => by injection e3 with e3; exact n1 e3))).trans (hc j hj)⟩
theorem Ls_gb {G : Nat} {ps : List (List UInt8)} {v : Value} {w w' : World} (h : Ls ps v w) (hG : NB G w) (hv : v.ownBlock ≠ some G) (hg : w.grownBy w' (some G)) : Ls ps v w' := by
  obtain ⟨ao, cap, h1, h3⟩ := h
  refine ⟨ao, cap, h1, fun h0 => ?_⟩
  obtain ⟨g, off, e, hlt, hc⟩ := h3 h0
  have n1 : g ≠ G := fun e2 => by subst e2; apply hv; rw [h1, e]; rfl
  refine ⟨g, off, e, Nat.lt_of_lt_of_le hlt hg.size, fun i hi => ?_⟩
  obtain ⟨vi, k1, k2⟩ := hc i hi
  exact ⟨vi, (World.cell?_of_block (a := ⟨g, off + i, none⟩) (hg.block g hlt (fun e3 => by injection e3 with e3; exact n1 e3))).trans k1, Sl_gb k2 hG hg⟩
theorem Sh_gb {G : Nat} {s : Shp} {v : V4} {w w' : World} (h : Sh s v w) (hG : NB G w) (hv : v.2.2.2.ownBlock ≠ some G) (hg : w.grownBy w' (some G)) : Sh s v w' :=
  ⟨h.1, Sl_gb h.2.1 hG hg, Sl_gb h.2.2.1 hG hg, Ls_gb h.2.2.2 hG hv hg⟩
theorem Ls_nil' (w : World) : Ls [] (.slice none 0 0) w := ⟨none, 0, rfl, fun h => absurd h (by decide)⟩
end Rs
end Go.Proofs.YtefgamhnikeekaaDoor
namespace Go.Proofs.YtefgamhnikeekaaDoor
namespace Tr
open Nb Go.RowKit
def st (l : By) : ByteArray := ⟨l.toArray⟩
theorem st_size (l : By) : (st l).size = l.length := by simp [st, ByteArray.size]
theorem st_cat (l m : By) : st l ++ st m = st (l ++ m) := by
  unfold st
  apply ByteArray.ext
  simp
theorem st_list (l : By) : (st l).toList = l := by
  unfold st
  simp [ByteArray.toList_eq]
theorem Sl_st {b : By} {v : Value} {w : World} (h : Pk.Sl b v w) : (convert 22 9 v).run Tryd.prog w = .ok (.string (st b)) w := Pk.Sl_conv h
theorem cat_st (l m : By) (h : l.length + m.length ≤ 9223372036854775807) (w : World) : (Op.stringOp .add (st l) (st m)).run Tryd.prog w = .ok (.string (st (l ++ m))) w := by
  rw [run_string_add_sum w _ _ (by rw [st_size, st_size]; exact h), st_cat]
theorem st_sl (l : By) (w : World) : ∃ c W, (convert 9 22 (.string (st l))).run Tryd.prog w = .ok (.slice (some ⟨w.heap.size, 0, none⟩) l.length c) W ∧ Pk.Sl l (.slice (some ⟨w.heap.size, 0, none⟩) l.length c) W ∧ W.heap.size = w.heap.size + 1 ∧ Below w.heap.size w W := by
  have h := Lib.run_convert_string_bytes w 9 22 5 (st l) Tryd.underlying9 Tryd.underlying22 Tryd.underlying5
  rw [st_size] at h
  refine ⟨_, _, h, ⟨_, _, rfl, grownCap_ge _ _ _ _, fun h0 => ⟨_, _, rfl, ?_, fun j hj => ?_⟩⟩, Lib.bytesWorld_size _ _ _, ⟨?_, ?_, ?_, ?_, fun k hk => Lib.bytesWorld_at_old w _ _ k hk⟩⟩
  · rw [Lib.bytesWorld_size]; omega
  · rw [Nat.zero_add, Lib.bytesWorld_cell w _ _ j (by rw [st_size]; exact hj)]
    rfl
  · rfl
  · rfl
  · rfl
  · rw [Lib.bytesWorld_size]; omega
def c2 (l : Rt) : List Value := l.flatMap fun r => [.string (st r.1), .string (st r.2)]
def n2 : By × By := ([], [])
theorem c2_len (l : Rt) : (c2 l).length = l.length * 2 := by
  induction l with
  | nil => rfl
  | cons p r ih => simp only [c2, List.flatMap_cons, List.length_append, List.length_cons, List.length_nil] at ih ⊢; omega
theorem c2_app (x y : Rt) : c2 (x ++ y) = c2 x ++ c2 y := by simp [c2]
theorem c2_get : ∀ (l : Rt) (j : Nat), j < l.length → (c2 l)[2 * j]? = some (.string (st (l.getD j n2).1)) ∧ (c2 l)[2 * j + 1]? = some (.string (st (l.getD j n2).2))
  | [], j, h => absurd h (by simp)
  | p :: r, 0, _ => ⟨rfl, rfl⟩
  | p :: r, j + 1, h => by
    have ih := c2_get r j (by simpa using h)
    have e1 : 2 * (j + 1) = 2 * j + 1 + 1 := by omega
    have e2 : 2 * (j + 1) + 1 = 2 * j + 1 + 1 + 1 := by omega
    have ec : c2 (p :: r) = .string (st p.1) :: .string (st p.2) :: c2 r := rfl
    rw [ec, e2, e1]
    simpa only [List.getElem?_cons_succ, List.getD_cons_succ] using ih
theorem c2_one (l : Rt) : ∀ u ∈ c2 l, u.oneCell' = true := fun u hu => by
  obtain ⟨r, _, h⟩ := List.mem_flatMap.1 hu
  rcases List.mem_cons.1 h with rfl | h
  · rfl
  rcases List.mem_cons.1 h with rfl | h
  · rfl
  · cases h
def Rv (l : Rt) (v : Value) (w : World) : Prop := ∃ (ao : Option Addr) (cap : Nat), v = .slice ao l.length cap ∧ l.length ≤ cap ∧ (0 < l.length → ∃ h off, ao = some ⟨h, off, none⟩ ∧ h < w.heap.size ∧ ∀ j, j < l.length → w.cell? ⟨h, off + 2 * j, none⟩ = some (.string (st (l.getD j n2).1)) ∧ w.cell? ⟨h, off + 2 * j + 1, none⟩ = some (.string (st (l.getD j n2).2)))
theorem Rv_below {l : Rt} {v : Value} {w w' : World} (h : Rv l v w) (hb : Below w.heap.size w w') : Rv l v w' := by
  obtain ⟨ao, cap, h1, h2, h4⟩ := h
  refine ⟨ao, cap, h1, h2, fun h0 => ?_⟩
  obtain ⟨k, off, e, hlt, hc⟩ := h4 h0
  exact ⟨k, off, e, Nat.lt_of_lt_of_le hlt hb.size, fun j hj => ⟨(hb.cell (p := ⟨k, off + 2 * j, none⟩) hlt).trans (hc j hj).1, (hb.cell (p := ⟨k, off + 2 * j + 1, none⟩) hlt).trans (hc j hj).2⟩⟩
theorem Rv_nil (w : World) : Rv [] (.slice none 0 0) w := ⟨none, 0, rfl, Nat.le_refl _, fun h => absurd h (by simp)⟩
theorem infoRt : (Tryd.prog.info? 70).map (fun i => (i.zero, i.size, i.bytes)) = some (some (.agg #[.string ⟨#[]⟩, .string ⟨#[]⟩]), 2, 32) := by kernel_rfl
abbrev Ow (lo : Nat) (l : Rt) (v : Value) (w : World) : Prop := w.ownsRow lo 70 2 v l.length (c2 l)
theorem own_rv {lo : Nat} {l : Rt} {v : Value} {w : World} (h : Ow lo l v w) : Rv l v w := by
  rcases h.2 with ⟨h3, h4⟩ | ⟨g, cap, cur, h3, h5⟩
  · have e : l = [] := List.length_eq_zero_iff.1 h4
    subst e
    subst h3
    exact Rv_nil w
  · subst h3
    refine ⟨some ⟨g, 0, none⟩, cap, rfl, h5.2.2.1, fun _ => ⟨g, 0, rfl, Pk.lt_of_heap h5.2.1, fun j hj => ?_⟩⟩
    have hc := c2_get l j hj
    refine ⟨?_, ?_⟩
    · rw [Nat.zero_add, h.cellAt _ (by omega)]; exact hc.1
    · rw [Nat.zero_add, h.cellAt _ (by omega)]; exact hc.2
theorem own_slice {lo : Nat} {l : Rt} {v : Value} {w : World} (h : Ow lo l v w) : ∃ a n c, v = .slice a n c := by
  rcases h.2 with ⟨h3, _⟩ | ⟨g, cap, cur, h3, _⟩
  · exact ⟨_, _, _, h3⟩
  · exact ⟨_, _, _, h3⟩
theorem app_rv {lo : Nat} {x b : Rt} {v vb : Value} {w : World} (ty : TypeId) (h : Ow lo x v w) (hb : Rv b vb w) (hlo : lo ≤ w.heap.size) (hlen : x.length + b.length ≤ 4194304) :
    ∃ v' w', (Builtin.append_ #[66, 66] ty #[v, vb]).run Tryd.prog w = .ok v' w' ∧ Ow lo (x ++ b) v' w' ∧ Below lo w w' ∧ w.grownBy w' v.ownBlock := by
  obtain ⟨i0, hi, hz0, hz1, hz2⟩ := info_parts infoRt
  obtain ⟨ao, cap, rfl, hcap, vw⟩ := hb
  by_cases h0 : 0 < b.length
  · obtain ⟨g, off, rfl, hg, hc⟩ := vw h0
    obtain ⟨v', w', hr, ho, hgr, _⟩ := run_append_own (P := Tryd.prog) w lo 66 ty 70 i0 _ 2 32 Tryd.underlying66 hi hz0 hz1 hz2 rfl (by decide) v x.length (c2 x) h ⟨g, off, none⟩ b.length cap (c2 b) (c2_len b)
      (fun j u hj => by
        have hj' : j < b.length * 2 := by
          have := (List.getElem?_eq_some_iff.1 hj).1
          rwa [c2_len] at this
        have ea : (⟨g, off, none⟩ : Addr).add j = ⟨g, off + j, none⟩ := by unfold Addr.add; split <;> simp_all
        rw [ea, ← hj]
        obtain ⟨k, hk⟩ : ∃ k, j = 2 * k ∨ j = 2 * k + 1 := ⟨j / 2, by omega⟩
        rcases hk with rfl | rfl
        · rw [(hc k (by omega)).1, (c2_get b k (by omega)).1]
        · rw [← Nat.add_assoc, (hc k (by omega)).2, (c2_get b k (by omega)).2]) (c2_one b) (by unfold maxLen; omega) (by omega) hlo
    refine ⟨v', w', hr, ?_, ?_, hgr⟩
    · show w'.ownsRow _ _ _ _ _ _
      rw [List.length_append, c2_app]
      exact ho
    · refine (Below.refl _ _).grown hgr hlo (fun k hk => ?_)
      rcases h.2 with ⟨h3, _⟩ | ⟨g', cap', cur, h3, h5⟩
      · subst h3; cases hk
      · subst h3
        cases hk
        exact h5.1
  · have e : b = [] := List.length_eq_zero_iff.1 (by omega)
    subst e
    rw [List.append_nil]
    have hg : w.grownBy w v.ownBlock := ⟨rfl, rfl, rfl, Nat.le_refl _, fun _ _ _ => rfl⟩
    refine ⟨v, w, ?_, h, Below.refl _ _, hg⟩
    have hs : Src Tryd.prog i0.size 66 (.slice ao 0 cap) 0 [] w := by
      cases ao with
      | none => exact Src.ofNil w Tryd.underlying66 cap
      | some ad => exact Src.ofSlice w Tryd.underlying66 ad 0 cap [] (by simp) (fun j u hj => by simp at hj) (fun u hu => by cases hu)
    rcases h.2 with ⟨h3, h4⟩ | ⟨g', cap', cur, h3, h5⟩
    · subst h3
      exact run_append_nothing w 66 66 ty 70 i0 Tryd.underlying66 hi none 0 0 (Nat.le_refl _) _ hs
    · subst h3
      exact run_append_nothing w 66 66 ty 70 i0 Tryd.underlying66 hi _ _ _ h5.2.2.1 _ hs
end Tr
end Go.Proofs.YtefgamhnikeekaaDoor
namespace Go.Proofs.YtefgamhnikeekaaDoor
namespace Tr
open Nb Go.RowKit
theorem msr_up (k n : Nat) (h : k < n) : ((n : Int) - intOf (.int .i64 ((k + 1 : Nat) : Int))).toNat < ((n : Int) - intOf (.int .i64 (k : Int))).toNat := by
  simp only [intOf]
  omega
theorem wp_apw {P : Program} {o : Oper} {a : Act} {K : Act → World → Prop} {Q : Exit → Act → World → Prop} {s x : Operand} {t u : TypeId} {v v2 v' : Value} {w w' : World} (ho : o.op = .call { callee := .builtin .append, args := #[s, x], argTypes := #[t, u] }) (hs : a.eval s = v) (hx : a.eval x = v2)
    (hr : (Builtin.append_ #[t, u] o.type #[v, v2]).run P w = .ok v' w') (h : K (a.put o.dst v') w') : o.wp P a w K Q := by
  unfold Oper.wp execOp
  simp only [ho, resolve, invoke, builtin, Sem.run_bind, Sem.run_pure, Result.andThen_ok, List.map_toArray, List.map_cons, List.map_nil, hs, hx, hr]
  exact h
theorem st_drop (l : By) (c : Nat) : (st l).extract c (st l).size = st (l.drop c) := by
  unfold st
  apply ByteArray.ext
  simp [ByteArray.extract, ByteArray.size, ByteArray.copySlice]
  exact List.take_of_length_le (by simp)
theorem cut_take (c : Nat) (l : Rt) (k : Nat) (h : k < l.length) : cut c (l.take k) ++ [((l.getD k n2).1.drop c, (l.getD k n2).2)] = cut c (l.take (k + 1)) := by
  unfold cut
  rw [List.take_add_one, List.map_append, List.getD_eq_getElem?_getD, List.getElem?_eq_getElem h]
  rfl
theorem lit_rv (r : By × By) (w : World) : Rv [r] (.slice (some ⟨w.heap.size, 0, none⟩) 1 1) (w.alloc (.cells #[.string (st r.1), .string (st r.2)] 70)) := by
  have HA := heap_alloc_new w (.cells #[.string (st r.1), .string (st r.2)] 70)
  refine ⟨_, _, rfl, Nat.le_refl _, fun _ => ⟨_, _, rfl, by simp, fun j hj => ?_⟩⟩
  have e : j = 0 := by simpa using hj
  subst e
  constructor
  · simp only [World.cell?, HA]; rfl
  · simp only [World.cell?, HA]; rfl
structure SW (w : World) (B : Nat) (xr : Rt) (h7 : Nat) (X Z : ByteArray) (oa : Option Addr) (on oc : Nat) (f9 f10 : Bool) (u5 : Value) (wx : World) : Prop where
  o : f9 = false → Ow B xr (.slice oa on oc) wx
  c0 : wx.cell? ⟨h7, 0, none⟩ = some (.string X)
  c1 : wx.cell? ⟨h7, 1, none⟩ = some (.string Z)
  b : Below B w wx
  s : h7 < wx.heap.size
  l : B ≤ wx.heap.size
  m : f10 = false → u5 = .slice oa on oc
inductive SHI (w : World) (B : Nat) (xr yr : Rt) (g off n cap c h7 k : Nat) (oa : Option Addr) (on oc : Nat) (X Y Z : ByteArray) (v24 : Value) (d : Nat → Bool) (x : Act) (wx : World) : Prop where
  | mk (u5 u14 u15 u16 u17 u18 u19 u20 u21 u22 u23 : Value) (hx : x = { tmps := #[.slice (some ⟨g, off, none⟩) n cap, .int .i64 (c : Int), undef, undef, .slice none 0 0, u5, undef, .pointer (some ⟨h7, 0, none⟩), .slice (some ⟨g, off, none⟩) n cap, .int .i64 (n : Int), .int .i64 (k : Int), .bool true, .pointer (some ⟨g, off + k * 2, none⟩), .agg #[.string X, .string Z], u14, u15, u16, u17, u18, u19, u20, u21, u22, u23, v24, undef], defers := [] }) (hw : SW w B xr h7 X Z oa on oc (d 9) (d 10) u5 wx) (p0 : d 0 = true → u14 = .slice oa on oc) (p1 : d 1 = true → u15 = .pointer (some ⟨h7, 0, none⟩)) (p2 : d 2 = true → u16 = .string X) (p3 : d 3 = true → u17 = .int .i64 (c : Int)) (p4 : d 4 = true → u18 = .string Y) (p5 : d 5 = true → u19 = .pointer (some ⟨h7, 1, none⟩)) (p6 : d 6 = true → u20 = .string Z) (p7 : d 7 = true → u21 = .agg #[.string Y, .string Z]) (z8 : d 8 = true → d 9 = false → Rv yr u22 wx) (z9 : d 9 = true → Ow B (xr ++ yr) u23 wx) (z10 : d 10 = true → Ow B (xr ++ yr) u5 wx) (y10 : d 10 = true → d 0 = true ∧ d 9 = true) : SHI w B xr yr g off n cap c h7 k oa on oc X Y Z v24 d x wx
set_option maxHeartbeats 1000000 in
set_option maxRecDepth 100000 in
theorem shorter_any (l : Rt) (c : Nat) (ao : Option Addr) (cap n : Nat) (w : World) (hn : Hid (n = l.length)) (hz : Hid (n ≤ 4194303)) (hl : Hid (Rv l (.slice ao n cap) w)) (hc : Hid (∀ r ∈ l, c ≤ r.1.length)) :
    Calls Tryd.prog 54 #[.slice ao n cap, .int .i64 (c : Int)] w fun e w' => ∃ v, e = .returned v ∧ Ow w.heap.size (cut c l) v w' ∧ Below w.heap.size w w' := by
  go_enter Tryd.func54, Tryd.ntmps54
  go_wp2_with fail
  go_loopw [5, 10] (fun o i wr => ∃ k : Nat, k ≤ n ∧ i = .int .i64 (k : Int) ∧ Ow w.heap.size (cut c (l.take k)) o wr ∧ Below w.heap.size w wr) (fun _ i _ => ((n : Int) - intOf i).toNat)
  case atStart => exact ⟨0, Nat.zero_le _, rfl, World.ownsRow_nil _ _ _ _, Below.refl _ _⟩
  case round =>
    obtain ⟨k, hkn, rfl, ho, hB⟩ := hrel
    by_cases hlt : k < n
    · have d0 : decide ((k : Int) < (n : Int)) = true := decide_eq_true (by omega)
      have d1 : (0 : Int) ≤ (k : Int) := by omega
      have d2 : (k : Int) < (n : Int) := by omega
      have hks : k < l.length := by have := hn.out; omega
      obtain ⟨a', cap', e2, -, hq⟩ := hl.out
      obtain ⟨g, off, rfl, hg, hcell⟩ := hq (by omega)
      injection e2 with e2 e2' e2''
      subst e2
      clear e2' e2''
      obtain ⟨x0, x1⟩ := hcell k hks
      have y0 := (hB.cell (p := ⟨g, off + 2 * k, none⟩) hg).trans x0
      have y1 := (hB.cell (p := ⟨g, off + 2 * k + 1, none⟩) hg).trans x1
      have hg2 : g < wr.heap.size := Nat.lt_of_lt_of_le hg hB.size
      rw [Nat.mul_comm 2 k] at y0 y1
      have hcl : c ≤ (l.getD k n2).1.length := by
        refine hc.out _ ?_
        rw [List.getD_eq_getElem?_getD, List.getElem?_eq_getElem hks]
        exact List.getElem_mem hks
      have HE : Hid (cut c (l.take k) ++ [((l.getD k n2).1.drop c, (l.getD k n2).2)] = cut c (l.take (k + 1))) := cut_take c l k hks
      have HLN : Hid ((cut c (l.take k)).length + [((l.getD k n2).1.drop c, (l.getD k n2).2)].length ≤ 4194304) := by
        have := hz.out
        show _ ≤ _
        rw [cut_len, List.length_take, List.length_singleton]
        omega
      have HLT : Hid (∀ wx : World, Rv [((l.getD k n2).1.drop c, (l.getD k n2).2)] (.slice (some ⟨wx.heap.size, 0, none⟩) 1 1) (wx.alloc (.cells #[.string (st ((l.getD k n2).1.drop c)), .string (st (l.getD k n2).2)] 70))) := fun wx => lit_rv _ wx
      have hD := st_drop (l.getD k n2).1 c
      have hD2 : (c : Int) ≤ ((st (l.getD k n2).1).size : Int) := by rw [st_size]; omega
      have hD3 : (0 : Int) ≤ (c : Int) := by omega
      have hob0 : ∀ q, u5.ownBlock = some q → q < wr.heap.size := fun q hq => (ho.lt q hq).2
      have bA : Below wr.heap.size wr (wr.alloc (.cells #[.string (st (l.getD k n2).1), .string (st (l.getD k n2).2)] 70)) := (Below.refl _ _).alloc (Nat.le_refl _) _
      have HA := heap_alloc_new wr (.cells #[.string (st (l.getD k n2).1), .string (st (l.getD k n2).2)] 70)
      obtain ⟨oa, on, oc, rfl⟩ := own_slice ho
      have HNB : Hid ((Value.slice oa on oc).ownBlock ≠ some wr.heap.size) := fun e => by have := hob0 _ e; omega
      have e5 : Hid (wrap64 ((k : Int) + 1) = ((k + 1 : Nat) : Int)) := by have := hz.out; show _ = _; unfold wrap64; omega
      have hw0 : SW w w.heap.size (cut c (l.take k)) wr.heap.size (st (l.getD k n2).1) (st (l.getD k n2).2) oa on oc false false (.slice oa on oc) (wr.alloc (.cells #[.string (st (l.getD k n2).1), .string (st (l.getD k n2).2)] 70)).drew := by
        refine ⟨fun _ => Pk.ownb (Pk.ownb ho bA) (Below.refl _ _).drew, ?_, ?_, (hB.trans (bA.mono hB.size)).drew, by simp, by have := hB.size; simp; omega, fun _ => rfl⟩
        · show (wr.alloc _).cell? _ = _
          simp only [World.cell?, HA]; rfl
        · show (wr.alloc _).cell? _ = _
          simp only [World.cell?, HA]; rfl
      clear hq hcell x0 x1 ho hob0 HA bA hcl
      generalize [((l.getD k n2).1.drop c, (l.getD k n2).2)] = yr at *
      generalize st ((l.getD k n2).1.drop c) = Y at *
      generalize st (l.getD k n2).1 = X at *
      generalize st (l.getD k n2).2 = Z at *
      go_upto_region 5 with fail
      generalize wr.alloc (.cells #[.string X, .string Z] 70) = W0 at *
      generalize wr.heap.size = h7 at *
      refine RI.wp_region_inv (SHI w w.heap.size (cut c (l.take k)) yr g off n cap c h7 k oa on oc X Y Z u24) (by kernel_rfl) (by kernel_rfl) ?_ ?_ ?_
      · exact ⟨_, u14, u15, u16, u17, u18, u19, u20, u21, u22, u23, rfl, hw0, nofun, nofun, nofun, nofun, nofun, nofun, nofun, nofun, nofun, nofun, nofun, nofun⟩
      · skip
        intro d x wx i hI hi hm
        obtain ⟨u5, u14, u15, u16, u17, u18, u19, u20, u21, u22, u23, rfl, hw, p0, p1, p2, p3, p4, p5, p6, p7, z8, z9, z10, y10⟩ := hI
        have hi' : i = 0 ∨ i = 1 ∨ i = 2 ∨ i = 3 ∨ i = 4 ∨ i = 5 ∨ i = 6 ∨ i = 7 ∨ i = 8 ∨ i = 9 ∨ i = 10 := by simp at hi; omega
        have hd := hm.2
        have hf := hm.1
        clear hm hi
        rcases hi' with rfl | rfl | rfl | rfl | rfl | rfl | rfl | rfl | rfl | rfl | rfl
        · refine RI.wpOp_plain rfl rfl ?_
          obtain rfl := hw.m (by cases h10 : d 10 with | false => rfl | true => exact absurd (y10 h10).1 (by simp [hf]))
          go_simp
          exact ⟨_, _, u15, u16, u17, u18, u19, u20, u21, u22, u23, rfl, hw, fun _ => rfl, p1, p2, p3, p4, p5, p6, p7, z8, z9, z10, fun h => ⟨rfl, (y10 h).2⟩⟩
        · refine RI.wpOp_plain rfl rfl ?_
          go_simp
          exact ⟨u5, u14, _, u16, u17, u18, u19, u20, u21, u22, u23, rfl, hw, p0, fun _ => rfl, p2, p3, p4, p5, p6, p7, z8, z9, z10, y10⟩
        · have hd := hd _ rfl
          simp [Region.binds] at hd
          obtain rfl := p1 (by simp [hd])
          refine RI.wpOp_plain rfl rfl ?_
          have m0 := hw.c0
          go_simp
          exact ⟨u5, u14, _, _, u17, u18, u19, u20, u21, u22, u23, rfl, hw, p0, p1, fun _ => rfl, p3, p4, p5, p6, p7, z8, z9, z10, y10⟩
        · refine RI.wpOp_plain rfl rfl ?_
          go_simp
          exact ⟨u5, u14, u15, u16, _, u18, u19, u20, u21, u22, u23, rfl, hw, p0, p1, p2, fun _ => rfl, p4, p5, p6, p7, z8, z9, z10, y10⟩
        · have hd := hd _ rfl
          simp [Region.binds] at hd
          obtain rfl := p2 (by simp [hd])
          obtain rfl := p3 (by simp [hd])
          refine RI.wpOp_plain rfl rfl ?_
          go_simp
          exact ⟨u5, u14, u15, _, _, _, u19, u20, u21, u22, u23, rfl, hw, p0, p1, p2, p3, fun _ => rfl, p5, p6, p7, z8, z9, z10, y10⟩
        · refine RI.wpOp_plain rfl rfl ?_
          go_simp
          exact ⟨u5, u14, u15, u16, u17, u18, _, u20, u21, u22, u23, rfl, hw, p0, p1, p2, p3, p4, fun _ => rfl, p6, p7, z8, z9, z10, y10⟩
        · have hd := hd _ rfl
          simp [Region.binds] at hd
          obtain rfl := p5 (by simp [hd])
          refine RI.wpOp_plain rfl rfl ?_
          have m1 := hw.c1
          go_simp
          exact ⟨u5, u14, u15, u16, u17, u18, _, _, u21, u22, u23, rfl, hw, p0, p1, p2, p3, p4, p5, fun _ => rfl, p7, z8, z9, z10, y10⟩
        · have hd := hd _ rfl
          simp [Region.binds] at hd
          obtain rfl := p4 (by simp [hd])
          obtain rfl := p6 (by simp [hd])
          refine RI.wpOp_plain rfl rfl ?_
          go_simp
          exact ⟨u5, u14, u15, u16, u17, _, u19, _, _, u22, u23, rfl, hw, p0, p1, p2, p3, p4, p5, p6, fun _ => rfl, z8, z9, z10, y10⟩
        · have hd := hd _ rfl
          simp [Region.binds] at hd
          obtain rfl := p7 (by simp [hd])
          refine RI.wpOp_plain rfl rfl ?_
          have bA : Below wx.heap.size wx (wx.alloc (.cells #[.string Y, .string Z] 70)) := (Below.refl _ _).alloc (Nat.le_refl _) _
          go_simp
          exact ⟨u5, u14, u15, u16, u17, u18, u19, u20, _, _, u23, rfl, ⟨fun h => Pk.ownb (hw.o h) bA, (bA.cell (p := ⟨h7, 0, none⟩) hw.s).trans hw.c0, (bA.cell (p := ⟨h7, 1, none⟩) hw.s).trans hw.c1, hw.b.trans (bA.mono hw.l), Nat.lt_of_lt_of_le hw.s bA.size, Nat.le_trans hw.l bA.size, hw.m⟩, p0, p1, p2, p3, p4, p5, p6, p7, fun _ _ => HLT.out wx, (fun h => Pk.ownb (z9 h) bA), (fun h => Pk.ownb (z10 h) bA), (y10)⟩
        · have hd := hd _ rfl
          simp [Region.binds] at hd
          obtain rfl := p0 (by simp [hd])
          refine RI.wpOp_plain rfl rfl ?_
          obtain ⟨v', w', hap, ho', hb', hgr⟩ := app_rv 66 (hw.o hf) (z8 (by simp [hd]) hf) hw.l HLN.out
          obtain ⟨a22, c22, rfl, -, -⟩ := id (z8 (by simp [hd]) hf)
          have hob : h7 < wx.heap.size → wx.heap[h7]? = w'.heap[h7]? := fun h => (hgr.block h7 h (fun e => HNB.out e.symm)).symm
          refine wp_apw rfl rfl rfl hap ?_
          simp only [Act.put]
          exact ⟨u5, _, u15, u16, u17, u18, u19, u20, u21, _, _, rfl, ⟨nofun, (World.cell?_of_block (a := ⟨h7, 0, none⟩) (hob hw.s).symm).trans hw.c0, (World.cell?_of_block (a := ⟨h7, 1, none⟩) (hob hw.s).symm).trans hw.c1, hw.b.trans hb', Nat.lt_of_lt_of_le hw.s hb'.size, Nat.le_trans hw.l hb'.size, hw.m⟩, p0, p1, p2, p3, p4, p5, p6, p7, (fun _ h => nomatch h), fun _ => ho', fun h => absurd (y10 h).2 (by simp [hf]), fun h => ⟨(y10 h).1, rfl⟩⟩
        · have hd := hd _ rfl
          simp [Region.binds] at hd
          obtain rfl := p0 (by simp [hd])
          obtain rfl := p1 (by simp [hd])
          obtain rfl := p2 (by simp [hd])
          obtain rfl := p3 (by simp [hd])
          obtain rfl := p4 (by simp [hd])
          obtain rfl := p5 (by simp [hd])
          obtain rfl := p6 (by simp [hd])
          obtain rfl := p7 (by simp [hd])
          refine RI.wpOp_plain rfl rfl ?_
          go_simp
          exact ⟨_, _, _, _, _, _, _, _, _, u22, u23, rfl, ⟨hw.o, hw.c0, hw.c1, hw.b, hw.s, hw.l, nofun⟩, p0, p1, p2, p3, p4, p5, p6, p7, z8, z9, fun _ => z9 (by simp [hd]), fun _ => ⟨by simp [RI.don, hd], by simp [RI.don, hd]⟩⟩
      · skip
        intro d x wx hI hd
        obtain ⟨u5, u14, u15, u16, u17, u18, u19, u20, u21, u22, u23, rfl, hw, p0, p1, p2, p3, p4, p5, p6, p7, z8, z9, z10, y10⟩ := hI
        have so := z10 (hd 10 (by decide))
        have hBw := hw.b
        rw [HE.out] at so
        clear p0 p1 p2 p3 p4 p5 p6 p7 z8 z9 z10 y10
        go_wp2_with fail
        rw [e5.out]
        exact ⟨⟨k + 1, hlt, rfl, so, hBw⟩, msr_up k n hlt⟩
    · have d0 : decide ((k : Int) < (n : Int)) = false := decide_eq_false (by omega)
      have ek : l.take k = l := List.take_of_length_le (by have := hn.out; omega)
      rw [ek] at ho
      go_wp2_with fail
      go_ret
      exact ⟨_, rfl, ho, hB⟩
end Tr
end Go.Proofs.YtefgamhnikeekaaDoor
namespace Go.Proofs.YtefgamhnikeekaaDoor
namespace Tr
open Nb Go.RowKit
def Bs (S : Nat → Prop) (b : By) (v : Value) (w : World) : Prop := ∃ (ao : Option Addr) (cap : Nat), v = .slice ao b.length cap ∧ b.length ≤ cap ∧ (0 < b.length → ∃ h off, ao = some ⟨h, off, none⟩ ∧ S h ∧ h < w.heap.size ∧ ∀ j, j < b.length → w.cell? ⟨h, off + j, none⟩ = some (.int .u8 (Sp.bz b j)))
abbrev V4 := Value × Value × Value × Value
def v4 (p : V4) : Value := .agg #[p.1, p.2.1, p.2.2.1, p.2.2.2]
def n4 : V4 := (undef, undef, undef, undef)
def Ks (S : Nat → Prop) (vs : List V4) (v : Value) (w : World) : Prop := ∃ (ao : Option Addr) (cap : Nat), v = .slice ao vs.length cap ∧ vs.length ≤ cap ∧ (0 < vs.length → ∃ h off, ao = some ⟨h, off, none⟩ ∧ S h ∧ h < w.heap.size ∧ ∀ j, j < vs.length → w.cell? ⟨h, off + 4 * j, none⟩ = some (vs.getD j n4).1 ∧ w.cell? ⟨h, off + 4 * j + 1, none⟩ = some (vs.getD j n4).2.1 ∧ w.cell? ⟨h, off + 4 * j + 2, none⟩ = some (vs.getD j n4).2.2.1 ∧ w.cell? ⟨h, off + 4 * j + 3, none⟩ = some (vs.getD j n4).2.2.2)
inductive Nv (S : Nat → Prop) (w : World) : Nd → V4 → Prop where
  | mk (k : Int) (p v : By) (ks : List Nd) (pv vv kv : Value) (vs : List V4) (hp : Bs S p pv w) (hv : Bs S v vv w) (hl : vs.length = ks.length) (hk : Ks S vs kv w) (hi : ∀ j, j < ks.length → Nv S w (ks.getD j Nd.no) (vs.getD j n4)) : Nv S w (.mk k p v ks) (.int .i64 k, pv, vv, kv)
theorem Bs_gb {S : Nat → Prop} {b : By} {v : Value} {w w' : World} {r : Option Nat} (h : Bs S b v w) (hb : w.grownBy w' r) (hr : ∀ k, S k → some k ≠ r) : Bs S b v w' := by
  obtain ⟨ao, cap, h1, h2, h4⟩ := h
  refine ⟨ao, cap, h1, h2, fun h0 => ?_⟩
  obtain ⟨k, off, e, hne, hlt, hc⟩ := h4 h0
  have hbk : w'.heap[k]? = w.heap[k]? := hb.block k hlt (hr k hne)
  exact ⟨k, off, e, hne, Nat.lt_of_lt_of_le hlt hb.size, fun j hj => (World.cell?_of_block (a := ⟨k, off + j, none⟩) hbk).trans (hc j hj)⟩
theorem Bs_mono {S S' : Nat → Prop} {b : By} {v : Value} {w : World} (h : Bs S b v w) (hs : ∀ k, S k → k < w.heap.size → S' k) : Bs S' b v w := by
  obtain ⟨ao, cap, h1, h2, h4⟩ := h
  refine ⟨ao, cap, h1, h2, fun h0 => ?_⟩
  obtain ⟨k, off, e, hne, hlt, hc⟩ := h4 h0
  exact ⟨k, off, e, hs k hne hlt, hlt, hc⟩
theorem Bs_nil (S : Nat → Prop) (w : World) : Bs S [] (.slice none 0 0) w := ⟨none, 0, rfl, Nat.le_refl _, fun h => absurd h (by simp)⟩
theorem Bs_sl {S : Nat → Prop} {b : By} {v : Value} {w : World} (h : Bs S b v w) : Pk.Sl b v w := by
  obtain ⟨ao, cap, h1, h2, h4⟩ := h
  refine ⟨ao, cap, h1, h2, fun h0 => ?_⟩
  obtain ⟨k, off, e, hne, hlt, hc⟩ := h4 h0
  exact ⟨k, off, e, hlt, hc⟩
theorem sl_bs {S : Nat → Prop} {b : By} {h n c : Nat} {w : World} (hs : S h) (hl : Pk.Sl b (.slice (some ⟨h, 0, none⟩) n c) w) : Bs S b (.slice (some ⟨h, 0, none⟩) n c) w := by
  obtain ⟨ao, cap, h1, h2, h4⟩ := hl
  injection h1 with e1 e2 e3
  subst e1 e2 e3
  refine ⟨_, _, rfl, h2, fun h0 => ?_⟩
  obtain ⟨k, off, e, hlt, hc⟩ := h4 h0
  injection e with e
  injection e with e1 e2
  subst e1 e2
  exact ⟨h, 0, rfl, hs, hlt, hc⟩
theorem Ks_gb {S : Nat → Prop} {vs : List V4} {v : Value} {w w' : World} {r : Option Nat} (h : Ks S vs v w) (hb : w.grownBy w' r) (hr : ∀ k, S k → some k ≠ r) : Ks S vs v w' := by
  obtain ⟨ao, cap, h1, h2, h4⟩ := h
  refine ⟨ao, cap, h1, h2, fun h0 => ?_⟩
  obtain ⟨k, off, e, hne, hlt, hc⟩ := h4 h0
  have hbk : w'.heap[k]? = w.heap[k]? := hb.block k hlt (hr k hne)
  exact ⟨k, off, e, hne, Nat.lt_of_lt_of_le hlt hb.size, fun j hj => ⟨(World.cell?_of_block (a := ⟨k, off + 4 * j, none⟩) hbk).trans (hc j hj).1, (World.cell?_of_block (a := ⟨k, off + 4 * j + 1, none⟩) hbk).trans (hc j hj).2.1, (World.cell?_of_block (a := ⟨k, off + 4 * j + 2, none⟩) hbk).trans (hc j hj).2.2.1, (World.cell?_of_block (a := ⟨k, off + 4 * j + 3, none⟩) hbk).trans (hc j hj).2.2.2⟩⟩
theorem Ks_mono {S S' : Nat → Prop} {vs : List V4} {v : Value} {w : World} (h : Ks S vs v w) (hs : ∀ k, S k → k < w.heap.size → S' k) : Ks S' vs v w := by
  obtain ⟨ao, cap, h1, h2, h4⟩ := h
  refine ⟨ao, cap, h1, h2, fun h0 => ?_⟩
  obtain ⟨k, off, e, hne, hlt, hc⟩ := h4 h0
  exact ⟨k, off, e, hs k hne hlt, hlt, hc⟩
theorem Ks_nil (S : Nat → Prop) (w : World) : Ks S [] (.slice none 0 0) w := ⟨none, 0, rfl, Nat.le_refl _, fun h => absurd h (by simp)⟩
theorem Nv_gb {S : Nat → Prop} {t : Nd} {v : V4} {w w' : World} {r : Option Nat} (h : Nv S w t v) (hb : w.grownBy w' r) (hr : ∀ k, S k → some k ≠ r) : Nv S w' t v := by
  induction h with
  | mk k p v ks pv vv kv vs hp hv hl hk hi ih => exact .mk k p v ks pv vv kv vs (Bs_gb hp hb hr) (Bs_gb hv hb hr) hl (Ks_gb hk hb hr) ih
theorem Nv_mono {S S' : Nat → Prop} {t : Nd} {v : V4} {w : World} (h : Nv S w t v) (hs : ∀ k, S k → k < w.heap.size → S' k) : Nv S' w t v := by
  induction h with
  | mk k p v ks pv vv kv vs hp hv hl hk hi ih => exact .mk k p v ks pv vv kv vs (Bs_mono hp hs) (Bs_mono hv hs) hl (Ks_mono hk hs) ih
theorem gb_below {a b : World} {r : Option Nat} (h : Below a.heap.size a b) : a.grownBy b r := ⟨h.os, h.tape, h.output, h.size, fun k hk _ => h.block k hk⟩
theorem Nv_below {S : Nat → Prop} {t : Nd} {v : V4} {w w' : World} (h : Nv S w t v) (hb : Below w.heap.size w w') : Nv S w' t v := Nv_gb (r := none) h (gb_below hb) (fun k _ e => by cases e)
theorem Bs_below {S : Nat → Prop} {b : By} {v : Value} {w w' : World} (h : Bs S b v w) (hb : Below w.heap.size w w') : Bs S b v w' := Bs_gb (r := none) h (gb_below hb) (fun k _ e => by cases e)
theorem Ks_below {S : Nat → Prop} {vs : List V4} {v : Value} {w w' : World} (h : Ks S vs v w) (hb : Below w.heap.size w w') : Ks S vs v w' := Ks_gb (r := none) h (gb_below hb) (fun k _ e => by cases e)
theorem Nv_form {S : Nat → Prop} {t : Nd} {v : V4} {w : World} (h : Nv S w t v) : ∃ k a1 n1 c1 a2 n2 c2 a3 n3 c3, v = (.int .i64 k, .slice a1 n1 c1, .slice a2 n2 c2, .slice a3 n3 c3) := by
  cases h with
  | mk k p v ks pv vv kv vs hp hv hl hk hi =>
    obtain ⟨a1, c1, rfl, _⟩ := hp
    obtain ⟨a2, c2, rfl, _⟩ := hv
    obtain ⟨a3, c3, rfl, _⟩ := hk
    exact ⟨k, a1, _, c1, a2, _, c2, a3, _, c3, rfl⟩
theorem Nv_no (S : Nat → Prop) (w : World) : Nv S w Nd.no (.int .i64 0, .slice none 0 0, .slice none 0 0, .slice none 0 0) := .mk 0 [] [] [] _ _ _ [] (Bs_nil _ _) (Bs_nil _ _) rfl (Ks_nil _ _) (fun j hj => absurd hj (by simp))
def Bx (h : Nat) (u : V4) (w : World) : Prop := h < w.heap.size ∧ w.cell? ⟨h, 0, none⟩ = some u.1 ∧ w.cell? ⟨h, 1, none⟩ = some u.2.1 ∧ w.cell? ⟨h, 2, none⟩ = some u.2.2.1 ∧ w.cell? ⟨h, 3, none⟩ = some u.2.2.2
theorem Bx_new (w : World) (u : V4) : Bx w.heap.size u (w.alloc (.cells #[u.1, u.2.1, u.2.2.1, u.2.2.2] 32)) := by
  have HA := heap_alloc_new w (.cells #[u.1, u.2.1, u.2.2.1, u.2.2.2] 32)
  refine ⟨by simp, ?_, ?_, ?_, ?_⟩ <;> (simp only [World.cell?, HA]; rfl)
theorem Bx_below {h : Nat} {u : V4} {w w' : World} (k : Bx h u w) (b : Below w.heap.size w w') : Bx h u w' :=
  ⟨Nat.lt_of_lt_of_le k.1 b.size, (b.cell (p := ⟨h, 0, none⟩) k.1).trans k.2.1, (b.cell (p := ⟨h, 1, none⟩) k.1).trans k.2.2.1, (b.cell (p := ⟨h, 2, none⟩) k.1).trans k.2.2.2.1, (b.cell (p := ⟨h, 3, none⟩) k.1).trans k.2.2.2.2⟩
end Tr
end Go.Proofs.YtefgamhnikeekaaDoor
namespace Go.Proofs.YtefgamhnikeekaaDoor
namespace Rt
open Nb Sp Pk Rs Go.RowKit
theorem BS_set1 {G o : Nat} {w : World} {v : Value} (h : BS G w) (ho : o < 4) (hv : ∀ x, v ≠ .int .u8 x) : BS G (w.setCell ⟨G, o, none⟩ v) := by
  refine ⟨by rw [show (w.setCell ⟨G, o, none⟩ v).heap.size = w.heap.size by simp [World.setCell]]; exact h.hi, fun j hj => ?_, fun j => by rw [World.frozen?_setCell]; exact h.f j, fun j x => ?_⟩
  · by_cases e : j = o
    · subst e
      obtain ⟨u, hu⟩ := Option.isSome_iff_exists.1 (h.c j hj)
      rw [World.cell?_setCell_same w ⟨G, j, none⟩ v hu]
      rfl
    · rw [cell_set_ne w G o j v e]
      exact h.c j hj
  · by_cases e : j = o
    · subst e
      obtain ⟨u, hu⟩ := Option.isSome_iff_exists.1 (h.c j ho)
      rw [World.cell?_setCell_same w ⟨G, j, none⟩ v hu]
      exact fun e2 => hv x (by injection e2)
    · rw [cell_set_ne w G o j v e]
      exact h.n j x
theorem BS_sets {G : Nat} {w : World} {k : Int} {a1 a2 a3 : Option Addr} {n1 c1 n2 c2 n3 c3 : Nat} (h : BS G w) : BS G (w.setCells G 0 [.int .i64 k, .slice a1 n1 c1, .slice a2 n2 c2, .slice a3 n3 c3]) := by
  have e : w.setCells G 0 [.int .i64 k, .slice a1 n1 c1, .slice a2 n2 c2, .slice a3 n3 c3] = (((w.setCell ⟨G, 0, none⟩ (.int .i64 k)).setCell ⟨G, 1, none⟩ (.slice a1 n1 c1)).setCell ⟨G, 2, none⟩ (.slice a2 n2 c2)).setCell ⟨G, 3, none⟩ (.slice a3 n3 c3) := rfl
  rw [e]
  exact BS_set1 (BS_set1 (BS_set1 (BS_set1 h (by decide) (fun x e => by injection e with e; cases e)) (by decide) nofun) (by decide) nofun) (by decide) nofun
theorem wpList_stB {ops : Array Oper} {rest : List Oper} {op : Oper} {a : Act} {w : World} {Q : Exit → Act → World → Prop} {x y : Operand} {G : Nat} {k : Int} {a1 a2 a3 : Option Addr} {n1 c1 n2 c2 n3 c3 : Nat} (hgd : op.guard = none) (ho : op.op = .store 25 x y)
    (hx : a.eval x = .pointer (some ⟨G, 0, none⟩)) (hy : a.eval y = .agg #[.int .i64 k, .slice a1 n1 c1, .slice a2 n2 c2, .slice a3 n3 c3]) (hB : BS G w)
    (h : ∀ w', w.grownBy w' (some G) → BS G w' → w'.cell? ⟨G, 0, none⟩ = some (.int .i64 k) → w'.cell? ⟨G, 1, none⟩ = some (.slice a1 n1 c1) → w'.cell? ⟨G, 2, none⟩ = some (.slice a2 n2 c2) → w'.cell? ⟨G, 3, none⟩ = some (.slice a3 n3 c3) → wpList Tryd.prog ops Q rest (a.put op.dst undef) w') : wpList Tryd.prog ops Q (op :: rest) a w := by
  have ht : w.there G 0 4 := fun j hj => by rw [Nat.zero_add]; exact ⟨hB.c j hj, hB.f j⟩
  have hs := World.rangeAt_setCells_same w G 0 [.int .i64 k, .slice a1 n1 c1, .slice a2 n2 c2, .slice a3 n3 c3] ht
  refine wpList_store_mid hgd 25 x y ho G 0 #[.int .i64 k, .slice a1 n1 c1, .slice a2 n2 c2, .slice a3 n3 c3] hx hy ht infoSh (all_oneCell_toArray (cs := [.int .i64 k, .slice a1 n1 c1, .slice a2 n2 c2, .slice a3 n3 c3]) (fun v hv => by simp only [List.mem_cons, List.not_mem_nil, or_false] at hv; rcases hv with rfl | rfl | rfl | rfl <;> rfl)) ?_
  exact h _ (Pk.gb_sets G _ 0 w) (BS_sets hB) (hs 0 _ rfl) (hs 1 _ rfl) (hs 2 _ rfl) (hs 3 _ rfl)
theorem own_vl {B : Nat} {l : List (List UInt8)} {hs : List Value} {v : Value} {w : World} (hl : hs.length = l.length) (ho : w.ownsRow B 22 1 v l.length hs) : Vl hs v w := by
  rcases ho.2 with ⟨h3, h4⟩ | ⟨g, cap, cur, h3, h4, h5, h6, h7, h8, h9⟩
  · exact ⟨none, 0, by rw [hl, h4]; exact h3, fun h0 => by omega⟩
  · refine ⟨some ⟨g, 0, none⟩, cap, by rw [hl]; exact h3, fun _ => ⟨g, 0, rfl, Pk.lt_of_heap h5, fun j hj => ?_⟩⟩
    have e : w.cell? ⟨g, 0 + j, none⟩ = cur[j]? := by
      rw [Nat.zero_add]
      simp only [World.cell?, h5]
      exact if_neg (by simp)
    rw [e, ← Array.getElem?_toList, ← h9, List.getElem?_take]
    exact (if_pos (by omega)).symm
theorem CO_one {B : Nat} {c : List UInt8} {v : Value} {w : World} (hB : B ≤ w.heap.size) (h : Ty (B ≤ ·) c v w) : CO B (fun _ => True) [c] (.slice (some ⟨w.heap.size, 0, none⟩) 1 1) (w.alloc (.cells #[v] 22)) := by
  refine ⟨[v], rfl, ⟨rfl, .inr ⟨w.heap.size, 1, #[v], rfl, hB, heap_alloc_new _ _, Nat.le_refl _, by unfold maxLen; omega, rfl, rfl⟩⟩, fun j hj => ?_⟩
  have : j = 0 := by simp at hj; omega
  subst this
  have bA : Below w.heap.size w (w.alloc (.cells #[v] 22)) := (Below.refl _ _).alloc (Nat.le_refl _) _
  exact Ty_gb (r := none) (Ty_mono h (fun k hk h2 => ⟨hk, (fun e => by
    have : w.heap.size = k := by simpa [Value.ownBlock] using e
    omega), trivial⟩)) (gb_below bA) (fun _ _ => nofun)
theorem CO_cons {B : Nat} {X : Nat → Prop} {c : List UInt8} {l : List (List UInt8)} {v rv : Value} {w : World} (ty : TypeId) (hB : B ≤ w.heap.size) (h : Ty (B ≤ ·) c v w) (hr : CO B X l rv w) (hn : l.length ≤ 4194300) :
    ∃ v' w', (Builtin.append_ #[23, 23] ty #[.slice (some ⟨w.heap.size, 0, none⟩) 1 1, rv]).run Tryd.prog (w.alloc (.cells #[v] 22)) = .ok v' w' ∧ CO B (fun _ => True) (c :: l) v' w' ∧ Below w.heap.size w w' := by
  have bA : Below w.heap.size w (w.alloc (.cells #[v] 22)) := (Below.refl _ _).alloc (Nat.le_refl _) _
  have hs1 : (w.alloc (.cells #[v] 22)).heap.size = w.heap.size + 1 := by simp
  have hlt : ∀ k, k < w.heap.size → (Value.slice (some ⟨w.heap.size, 0, none⟩) 1 1).ownBlock ≠ some k := fun k hk e => by
    have : w.heap.size = k := by simpa [Value.ownBlock] using e
    omega
  obtain ⟨hs2, hl2, ho2, ht2⟩ := hr
  have vl2 : Vl hs2 rv (w.alloc (.cells #[v] 22)) := Vl_below (own_vl hl2 ho2) bA
  obtain ⟨v', w', hap, co, hgr, _⟩ := CO_app (m := l) ty (CO_one hB h) vl2 hl2 (fun j hj => Ty_gb (r := none) (Ty_mono (ht2 j hj) (fun k hk h2 => ⟨hk.1, hlt k h2, trivial⟩)) (gb_below bA) (fun _ _ => nofun)) (by omega) (by simp; omega)
  exact ⟨v', w', hap, co, bA.trans ⟨hgr.os, hgr.tape, hgr.output, hgr.size, fun j hj => hgr.block j (by omega) (fun e => by
    have e2 : (some j : Option Nat) = some w.heap.size := e
    injection e2 with e2
    omega)⟩⟩
def TC (w : World) (l : List (List UInt8)) (e : Ending) (w' : World) : Prop := ∃ v, e = .returned v ∧ CO w.heap.size (fun _ => True) l v w' ∧ Below w.heap.size w w'
set_option maxHeartbeats 4000000 in
set_option maxRecDepth 100000 in
theorem tc_leaf (a1 a2 a3 : Option Addr) (n1 c1 n2 c2 n3 c3 : Nat) (w : World) (z : Int) (p u : List UInt8) (hp : Hid (Sl p (.slice a1 n1 c1) w)) (hu : Hid (Sl u (.slice a2 n2 c2) w)) (C : List UInt8) (KH : Hid (∀ wx : World, Sh (1, p, u, []) (.int .i64 1, .slice a1 n1 c1, .slice a2 n2 c2, .slice none 0 0) wx → Calls Tryd.prog 6 #[.agg #[.int .i64 1, .slice a1 n1 c1, .slice a2 n2 c2, .slice none 0 0]] wx fun e w' => ∃ v, e = .returned (.tuple #[v, .int .i64 z]) ∧ Sl C v w' ∧ Below wx.heap.size wx w' ∧ Nw wx.heap.size v)) :
    Calls Tryd.prog 19 #[.agg #[.int .i64 1, .slice a1 n1 c1, .slice a2 n2 c2, .slice a3 n3 c3]] w (TC w [C]) := by
  have l0 : Below w.heap.size w ((w.alloc (.cells #[.int .i64 1, .slice a1 n1 c1, .slice a2 n2 c2, .slice a3 n3 c3] 32)).alloc (.cells #[.int .i64 0, .slice none 0 0, .slice none 0 0, .slice none 0 0] 25)) := ((Below.refl _ _).alloc (Nat.le_refl _) _).alloc (by simp) _
  have hs1 : (w.alloc (.cells #[.int .i64 1, .slice a1 n1 c1, .slice a2 n2 c2, .slice a3 n3 c3] 32)).heap.size = w.heap.size + 1 := by simp
  have x0 : BS (w.heap.size + 1) ((w.alloc (.cells #[.int .i64 1, .slice a1 n1 c1, .slice a2 n2 c2, .slice a3 n3 c3] 32)).alloc (.cells #[.int .i64 0, .slice none 0 0, .slice none 0 0, .slice none 0 0] 25)) := hs1 ▸ BS_new (w.alloc (.cells #[.int .i64 1, .slice a1 n1 c1, .slice a2 n2 c2, .slice a3 n3 c3] 32))
  have hbn := heap_alloc_new (w.alloc (.cells #[.int .i64 1, .slice a1 n1 c1, .slice a2 n2 c2, .slice a3 n3 c3] 32)) (.cells #[.int .i64 0, .slice none 0 0, .slice none 0 0, .slice none 0 0] 25)
  have HA := heap_alloc_new w (.cells #[.int .i64 1, .slice a1 n1 c1, .slice a2 n2 c2, .slice a3 n3 c3] 32)
  have bB : Below (w.heap.size + 1) (w.alloc (.cells #[.int .i64 1, .slice a1 n1 c1, .slice a2 n2 c2, .slice a3 n3 c3] 32)) ((w.alloc (.cells #[.int .i64 1, .slice a1 n1 c1, .slice a2 n2 c2, .slice a3 n3 c3] 32)).alloc (.cells #[.int .i64 0, .slice none 0 0, .slice none 0 0, .slice none 0 0] 25)) := (Below.refl _ _).alloc (by omega) _
  have q0 : ((w.alloc (.cells #[.int .i64 1, .slice a1 n1 c1, .slice a2 n2 c2, .slice a3 n3 c3] 32)).alloc (.cells #[.int .i64 0, .slice none 0 0, .slice none 0 0, .slice none 0 0] 25)).cell? ⟨w.heap.size, 0, none⟩ = some (.int .i64 1) := (bB.cell (p := ⟨w.heap.size, 0, none⟩) (by show w.heap.size < _; omega)).trans (by simp only [World.cell?, HA]; rfl)
  have q1 : ((w.alloc (.cells #[.int .i64 1, .slice a1 n1 c1, .slice a2 n2 c2, .slice a3 n3 c3] 32)).alloc (.cells #[.int .i64 0, .slice none 0 0, .slice none 0 0, .slice none 0 0] 25)).cell? ⟨w.heap.size, 1, none⟩ = some (.slice a1 n1 c1) := (bB.cell (p := ⟨w.heap.size, 1, none⟩) (by show w.heap.size < _; omega)).trans (by simp only [World.cell?, HA]; rfl)
  have q2 : ((w.alloc (.cells #[.int .i64 1, .slice a1 n1 c1, .slice a2 n2 c2, .slice a3 n3 c3] 32)).alloc (.cells #[.int .i64 0, .slice none 0 0, .slice none 0 0, .slice none 0 0] 25)).cell? ⟨w.heap.size, 2, none⟩ = some (.slice a2 n2 c2) := (bB.cell (p := ⟨w.heap.size, 2, none⟩) (by show w.heap.size < _; omega)).trans (by simp only [World.cell?, HA]; rfl)
  have q3 : ((w.alloc (.cells #[.int .i64 1, .slice a1 n1 c1, .slice a2 n2 c2, .slice a3 n3 c3] 32)).alloc (.cells #[.int .i64 0, .slice none 0 0, .slice none 0 0, .slice none 0 0] 25)).cell? ⟨w.heap.size, 3, none⟩ = some (.slice a3 n3 c3) := (bB.cell (p := ⟨w.heap.size, 3, none⟩) (by show w.heap.size < _; omega)).trans (by simp only [World.cell?, HA]; rfl)
  have y0 : ((w.alloc (.cells #[.int .i64 1, .slice a1 n1 c1, .slice a2 n2 c2, .slice a3 n3 c3] 32)).alloc (.cells #[.int .i64 0, .slice none 0 0, .slice none 0 0, .slice none 0 0] 25)).cell? ⟨w.heap.size + 1, 0, none⟩ = some (.int .i64 0) := by rw [hs1] at hbn; simp only [World.cell?, hbn]; rfl
  have y1 : ((w.alloc (.cells #[.int .i64 1, .slice a1 n1 c1, .slice a2 n2 c2, .slice a3 n3 c3] 32)).alloc (.cells #[.int .i64 0, .slice none 0 0, .slice none 0 0, .slice none 0 0] 25)).cell? ⟨w.heap.size + 1, 1, none⟩ = some (.slice none 0 0) := by rw [hs1] at hbn; simp only [World.cell?, hbn]; rfl
  have y2 : ((w.alloc (.cells #[.int .i64 1, .slice a1 n1 c1, .slice a2 n2 c2, .slice a3 n3 c3] 32)).alloc (.cells #[.int .i64 0, .slice none 0 0, .slice none 0 0, .slice none 0 0] 25)).cell? ⟨w.heap.size + 1, 2, none⟩ = some (.slice none 0 0) := by rw [hs1] at hbn; simp only [World.cell?, hbn]; rfl
  have y3 : ((w.alloc (.cells #[.int .i64 1, .slice a1 n1 c1, .slice a2 n2 c2, .slice a3 n3 c3] 32)).alloc (.cells #[.int .i64 0, .slice none 0 0, .slice none 0 0, .slice none 0 0] 25)).cell? ⟨w.heap.size + 1, 3, none⟩ = some (.slice none 0 0) := by rw [hs1] at hbn; simp only [World.cell?, hbn]; rfl
  have hsz : ((w.alloc (.cells #[.int .i64 1, .slice a1 n1 c1, .slice a2 n2 c2, .slice a3 n3 c3] 32)).alloc (.cells #[.int .i64 0, .slice none 0 0, .slice none 0 0, .slice none 0 0] 25)).heap.size = w.heap.size + 2 := by simp
  clear HA bB hs1 hbn
  go_enter Tryd.func19, Tryd.ntmps19
  go_upto_region 3 with fail
  generalize ((w.alloc (.cells #[.int .i64 1, .slice a1 n1 c1, .slice a2 n2 c2, .slice a3 n3 c3] 32)).alloc (.cells #[.int .i64 0, .slice none 0 0, .slice none 0 0, .slice none 0 0] 25)) = W0 at *
  obtain ⟨h, eh⟩ : ∃ h, h = w.heap.size := ⟨_, rfl⟩
  have EH : Hid (h = w.heap.size) := eh
  have L0 : Hid (Below w.heap.size w W0) := l0
  have X0 : Hid (BS (h + 1) W0) := eh ▸ x0
  have HSZ : Hid (W0.heap.size = h + 2) := by show _ = _; rw [eh]; exact hsz
  rw [← eh] at q0 q1 q2 q3 y0 y1 y2 y3 ⊢
  clear eh l0 x0 hsz
  have x1 := X0.out
  have HS0 : Sh (1, p, u, []) (.int .i64 1, .slice a1 n1 c1, .slice a2 n2 c2, .slice none 0 0) W0 := ⟨rfl, Sl_below hp.out L0.out, Sl_below hu.out L0.out, Ls_nil' _⟩
  have SH1 : Hid (Sh (1, p, u, []) (.int .i64 1, .slice a1 n1 c1, .slice a2 n2 c2, .slice none 0 0) W0) := HS0
  clear HS0
  go_upto_region 5 with fail
  go_wp2_with (refine wpList_stB rfl rfl rfl rfl x1 ?_)
  intro w1 g1 xb z0 z1 z2 z3
  have LL := L0.out
  have L1 : Hid (Below w.heap.size w w1) := LL.trans ⟨g1.os, g1.tape, g1.output, g1.size, fun j hj => g1.block j (by have := LL.size; omega) (fun e => by injection e with e; have := EH.out; omega)⟩
  have S1 : Hid (Sh (1, p, u, []) (.int .i64 1, .slice a1 n1 c1, .slice a2 n2 c2, .slice none 0 0) w1) := Sh_gb SH1.out (BS_nb x1) nofun g1
  clear g1 xb x1 LL SH1 y0 y1 y2 y3 q0 q1 q2 q3
  go_wp2_with fail
  refine (KH.out _ S1.out).mono ?_
  rintro e w5 ⟨v, rfl, sc, bc, nc⟩
  obtain ⟨ca, cc, rfl⟩ := Sl_fm sc
  have l5 : Below w.heap.size w w5 := (L1.out).trans (bc.mono (L1.out).size)
  obtain ⟨v', w7, hap, co, b7⟩ := CO_cons 23 l5.size (Ty_mono (nw_ty sc nc) (fun k hk _ => Nat.le_trans (L1.out).size hk)) (CO_nil w.heap.size (fun _ => True) _) (Nat.zero_le _)
  obtain ⟨va, vc, rfl, _⟩ := CO_form co
  have HR : Hid _ := And.intro co (l5.trans (b7.mono l5.size))
  clear sc bc nc l5 co b7 KH
  generalize C.length = cl at *
  go_wp2_with (at_builtin; refine wpList_apw rfl rfl rfl rfl hap ?_)
  go_ret
  exact ⟨_, rfl, HR.out⟩
set_option maxHeartbeats 4000000 in
set_option maxRecDepth 100000 in
theorem tc_other (a1 a2 a3 : Option Addr) (n1 c1 n2 c2 n3 c3 : Nat) (w : World) (z kk : Int) (k1 : Hid (kk ≠ 1)) (k2 : Hid (kk ≠ 2)) (k3 : Hid (kk ≠ 3)) (C : List UInt8) (KH : Hid (∀ wx : World, Sh zS (.int .i64 0, .slice none 0 0, .slice none 0 0, .slice none 0 0) wx → Calls Tryd.prog 6 #[.agg #[.int .i64 0, .slice none 0 0, .slice none 0 0, .slice none 0 0]] wx fun e w' => ∃ v, e = .returned (.tuple #[v, .int .i64 z]) ∧ Sl C v w' ∧ Below wx.heap.size wx w' ∧ Nw wx.heap.size v)) :
    Calls Tryd.prog 19 #[.agg #[.int .i64 kk, .slice a1 n1 c1, .slice a2 n2 c2, .slice a3 n3 c3]] w (TC w [C]) := by
  have l0 : Below w.heap.size w ((w.alloc (.cells #[.int .i64 kk, .slice a1 n1 c1, .slice a2 n2 c2, .slice a3 n3 c3] 32)).alloc (.cells #[.int .i64 0, .slice none 0 0, .slice none 0 0, .slice none 0 0] 25)) := ((Below.refl _ _).alloc (Nat.le_refl _) _).alloc (by simp) _
  have hs1 : (w.alloc (.cells #[.int .i64 kk, .slice a1 n1 c1, .slice a2 n2 c2, .slice a3 n3 c3] 32)).heap.size = w.heap.size + 1 := by simp
  have x0 : BS (w.heap.size + 1) ((w.alloc (.cells #[.int .i64 kk, .slice a1 n1 c1, .slice a2 n2 c2, .slice a3 n3 c3] 32)).alloc (.cells #[.int .i64 0, .slice none 0 0, .slice none 0 0, .slice none 0 0] 25)) := hs1 ▸ BS_new (w.alloc (.cells #[.int .i64 kk, .slice a1 n1 c1, .slice a2 n2 c2, .slice a3 n3 c3] 32))
  have hbn := heap_alloc_new (w.alloc (.cells #[.int .i64 kk, .slice a1 n1 c1, .slice a2 n2 c2, .slice a3 n3 c3] 32)) (.cells #[.int .i64 0, .slice none 0 0, .slice none 0 0, .slice none 0 0] 25)
  have HA := heap_alloc_new w (.cells #[.int .i64 kk, .slice a1 n1 c1, .slice a2 n2 c2, .slice a3 n3 c3] 32)
  have bB : Below (w.heap.size + 1) (w.alloc (.cells #[.int .i64 kk, .slice a1 n1 c1, .slice a2 n2 c2, .slice a3 n3 c3] 32)) ((w.alloc (.cells #[.int .i64 kk, .slice a1 n1 c1, .slice a2 n2 c2, .slice a3 n3 c3] 32)).alloc (.cells #[.int .i64 0, .slice none 0 0, .slice none 0 0, .slice none 0 0] 25)) := (Below.refl _ _).alloc (by omega) _
  have q0 : ((w.alloc (.cells #[.int .i64 kk, .slice a1 n1 c1, .slice a2 n2 c2, .slice a3 n3 c3] 32)).alloc (.cells #[.int .i64 0, .slice none 0 0, .slice none 0 0, .slice none 0 0] 25)).cell? ⟨w.heap.size, 0, none⟩ = some (.int .i64 kk) := (bB.cell (p := ⟨w.heap.size, 0, none⟩) (by show w.heap.size < _; omega)).trans (by simp only [World.cell?, HA]; rfl)
  have q1 : ((w.alloc (.cells #[.int .i64 kk, .slice a1 n1 c1, .slice a2 n2 c2, .slice a3 n3 c3] 32)).alloc (.cells #[.int .i64 0, .slice none 0 0, .slice none 0 0, .slice none 0 0] 25)).cell? ⟨w.heap.size, 1, none⟩ = some (.slice a1 n1 c1) := (bB.cell (p := ⟨w.heap.size, 1, none⟩) (by show w.heap.size < _; omega)).trans (by simp only [World.cell?, HA]; rfl)
  have q2 : ((w.alloc (.cells #[.int .i64 kk, .slice a1 n1 c1, .slice a2 n2 c2, .slice a3 n3 c3] 32)).alloc (.cells #[.int .i64 0, .slice none 0 0, .slice none 0 0, .slice none 0 0] 25)).cell? ⟨w.heap.size, 2, none⟩ = some (.slice a2 n2 c2) := (bB.cell (p := ⟨w.heap.size, 2, none⟩) (by show w.heap.size < _; omega)).trans (by simp only [World.cell?, HA]; rfl)
  have q3 : ((w.alloc (.cells #[.int .i64 kk, .slice a1 n1 c1, .slice a2 n2 c2, .slice a3 n3 c3] 32)).alloc (.cells #[.int .i64 0, .slice none 0 0, .slice none 0 0, .slice none 0 0] 25)).cell? ⟨w.heap.size, 3, none⟩ = some (.slice a3 n3 c3) := (bB.cell (p := ⟨w.heap.size, 3, none⟩) (by show w.heap.size < _; omega)).trans (by simp only [World.cell?, HA]; rfl)
  have y0 : ((w.alloc (.cells #[.int .i64 kk, .slice a1 n1 c1, .slice a2 n2 c2, .slice a3 n3 c3] 32)).alloc (.cells #[.int .i64 0, .slice none 0 0, .slice none 0 0, .slice none 0 0] 25)).cell? ⟨w.heap.size + 1, 0, none⟩ = some (.int .i64 0) := by rw [hs1] at hbn; simp only [World.cell?, hbn]; rfl
  have y1 : ((w.alloc (.cells #[.int .i64 kk, .slice a1 n1 c1, .slice a2 n2 c2, .slice a3 n3 c3] 32)).alloc (.cells #[.int .i64 0, .slice none 0 0, .slice none 0 0, .slice none 0 0] 25)).cell? ⟨w.heap.size + 1, 1, none⟩ = some (.slice none 0 0) := by rw [hs1] at hbn; simp only [World.cell?, hbn]; rfl
  have y2 : ((w.alloc (.cells #[.int .i64 kk, .slice a1 n1 c1, .slice a2 n2 c2, .slice a3 n3 c3] 32)).alloc (.cells #[.int .i64 0, .slice none 0 0, .slice none 0 0, .slice none 0 0] 25)).cell? ⟨w.heap.size + 1, 2, none⟩ = some (.slice none 0 0) := by rw [hs1] at hbn; simp only [World.cell?, hbn]; rfl
  have y3 : ((w.alloc (.cells #[.int .i64 kk, .slice a1 n1 c1, .slice a2 n2 c2, .slice a3 n3 c3] 32)).alloc (.cells #[.int .i64 0, .slice none 0 0, .slice none 0 0, .slice none 0 0] 25)).cell? ⟨w.heap.size + 1, 3, none⟩ = some (.slice none 0 0) := by rw [hs1] at hbn; simp only [World.cell?, hbn]; rfl
  have hsz : ((w.alloc (.cells #[.int .i64 kk, .slice a1 n1 c1, .slice a2 n2 c2, .slice a3 n3 c3] 32)).alloc (.cells #[.int .i64 0, .slice none 0 0, .slice none 0 0, .slice none 0 0] 25)).heap.size = w.heap.size + 2 := by simp
  clear HA bB hs1 hbn
  go_enter Tryd.func19, Tryd.ntmps19
  go_upto_region 3 with fail
  generalize ((w.alloc (.cells #[.int .i64 kk, .slice a1 n1 c1, .slice a2 n2 c2, .slice a3 n3 c3] 32)).alloc (.cells #[.int .i64 0, .slice none 0 0, .slice none 0 0, .slice none 0 0] 25)) = W0 at *
  obtain ⟨h, eh⟩ : ∃ h, h = w.heap.size := ⟨_, rfl⟩
  have EH : Hid (h = w.heap.size) := eh
  have L0 : Hid (Below w.heap.size w W0) := l0
  have X0 : Hid (BS (h + 1) W0) := eh ▸ x0
  have HSZ : Hid (W0.heap.size = h + 2) := by show _ = _; rw [eh]; exact hsz
  rw [← eh] at q0 q1 q2 q3 y0 y1 y2 y3 ⊢
  clear eh l0 x0 hsz
  have e1 : (kk == 1) = false := beq_eq_false_iff_ne.2 k1.out
  have e2 : (kk == 2) = false := beq_eq_false_iff_ne.2 k2.out
  have e3 : (kk == 3) = false := beq_eq_false_iff_ne.2 k3.out
  have S1 : Hid (Sh zS (.int .i64 0, .slice none 0 0, .slice none 0 0, .slice none 0 0) W0) := ⟨rfl, Sl_nil _, Sl_nil _, Ls_nil' _⟩
  go_wp2_with fail
  refine (KH.out _ S1.out).mono ?_
  rintro e w5 ⟨v, rfl, sc, bc, nc⟩
  obtain ⟨ca, cc, rfl⟩ := Sl_fm sc
  have l5 : Below w.heap.size w w5 := (L0.out).trans (bc.mono (L0.out).size)
  obtain ⟨v', w7, hap, co, b7⟩ := CO_cons 23 l5.size (Ty_mono (nw_ty sc nc) (fun k hk _ => Nat.le_trans (L0.out).size hk)) (CO_nil w.heap.size (fun _ => True) _) (Nat.zero_le _)
  obtain ⟨va, vc, rfl, _⟩ := CO_form co
  have HR : Hid _ := And.intro co (l5.trans (b7.mono l5.size))
  clear sc bc nc l5 co b7 KH
  generalize C.length = cl at *
  go_wp2_with (at_builtin; refine wpList_apw rfl rfl rfl rfl hap ?_)
  go_ret
  exact ⟨_, rfl, HR.out⟩
end Rt
end Go.Proofs.YtefgamhnikeekaaDoor
namespace Go.Proofs.YtefgamhnikeekaaDoor
namespace Rt
open Nb Sp Pk Rs Go.RowKit
structure TI (W1 : World) (G : Nat) (k : Int) (pv vv : Value) (ks : List Nd) (jk jr : Nat) (kv rv : Value) (wr : World) : Prop where
  g : G < W1.heap.size
  x : BS G wr
  c0 : wr.cell? ⟨G, 0, none⟩ = some (.int .i64 k)
  c1 : wr.cell? ⟨G, 1, none⟩ = some pv
  c2 : wr.cell? ⟨G, 2, none⟩ = some vv
  c3 : wr.cell? ⟨G, 3, none⟩ = some kv
  b : W1.grownBy wr (some G)
  K : CO W1.heap.size (fun i => rv.ownBlock ≠ some i) (sms (ks.take jk)) kv wr
  R : CO W1.heap.size (fun i => kv.ownBlock ≠ some i) (cdk (ks.take jr)) rv wr
  d : ∀ g, kv.ownBlock = some g → rv.ownBlock ≠ some g
variable {W1 : World} {G : Nat} {k : Int} {pv vv : Value} {ks : List Nd} {jk jr : Nat} {kv rv : Value} {wr w6 : World}
theorem TI_below (H : TI W1 G k pv vv ks jk jr kv rv wr) (hb : Below wr.heap.size wr w6) : TI W1 G k pv vv ks jk jr kv rv w6 :=
  ⟨H.g, BS_gb (r := none) H.x (gb_below hb) nofun, (hb.cell (p := ⟨G, 0, none⟩) H.x.hi).trans H.c0, (hb.cell (p := ⟨G, 1, none⟩) H.x.hi).trans H.c1, (hb.cell (p := ⟨G, 2, none⟩) H.x.hi).trans H.c2, (hb.cell (p := ⟨G, 3, none⟩) H.x.hi).trans H.c3,
    ⟨hb.os.trans H.b.os, hb.tape.trans H.b.tape, hb.output.trans H.b.output, Nat.le_trans H.b.size hb.size, fun j hj hne => (hb.block j (Nat.lt_of_lt_of_le hj H.b.size)).trans (H.b.block j hj hne)⟩, CO_below H.K hb, CO_below H.R hb, H.d⟩
theorem TI_K (ty : TypeId) {T : List UInt8} {y vb : Value} (H : TI W1 G k pv vv ks jk jr kv rv wr) (hv : Vl [y] vb wr) (ht : Ty (fun i => W1.heap.size ≤ i ∧ kv.ownBlock ≠ some i ∧ rv.ownBlock ≠ some i) T y wr) (hs : sms (ks.take (jk + 1)) = sms (ks.take jk) ++ [T]) (hn : ks.length ≤ 1048576) :
    ∃ a m c w7, (Builtin.append_ #[23, 23] ty #[kv, vb]).run Tryd.prog wr = .ok (.slice a m c) w7 ∧ (w7.cell? ⟨G, 3, none⟩ = some kv ∧ w7.frozen? ⟨G, 3, none⟩ = false) ∧ TI W1 G k pv vv ks (jk + 1) jr (.slice a m c) rv (w7.setCell ⟨G, 3, none⟩ (.slice a m c)) ∧ wr.grownBy w7 kv.ownBlock ∧ (∀ g, (Value.slice a m c).ownBlock = some g → kv.ownBlock = some g ∨ g = wr.heap.size) := by
  have hsz := H.b.size
  have hG := H.g
  have hlen : (sms (ks.take jk)).length ≤ 1048576 := by rw [sms_len, List.length_take]; omega
  obtain ⟨v', w7, hap, co, hgr, hw⟩ := CO_app (m := [T]) ty H.K hv rfl (fun j hj => by
    have : j = 0 := by simp at hj; omega
    subst this
    exact ht) hsz (by simp only [List.length_singleton]; omega)
  obtain ⟨a, c, rfl, _⟩ := CO_form co
  have hkl := CO_lt H.K
  have hrl := CO_lt H.R
  have hGk : some G ≠ kv.ownBlock := fun e => by have := (hkl G e.symm).1; omega
  have x7 := BS_gb H.x hgr hGk
  have cell7 : ∀ o u, wr.cell? ⟨G, o, none⟩ = some u → w7.cell? ⟨G, o, none⟩ = some u := fun o u c => (World.cell?_of_block (a := ⟨G, o, none⟩) (hgr.block G H.x.hi hGk)).trans c
  have R7 : CO W1.heap.size (fun i => (Value.slice a (sms (ks.take jk) ++ [T]).length c).ownBlock ≠ some i) (cdk (ks.take jr)) rv w7 := by
    have r1 : CO W1.heap.size (fun i => kv.ownBlock ≠ some i ∧ (Value.slice a (sms (ks.take jk) ++ [T]).length c).ownBlock ≠ some i) (cdk (ks.take jr)) rv wr := CO_mono H.R (fun i _ h2 h3 => ⟨h3, fun e => by
      rcases hw i e with e2 | e2
      · exact h3 e2
      · omega⟩)
    exact CO_mono (CO_gb r1 hgr (fun i hi e => H.d i e.symm hi) (fun i _ hi e => hi.1 e.symm)) (fun i _ _ h => h.2)
  have d7 : ∀ g, (Value.slice a (sms (ks.take jk) ++ [T]).length c).ownBlock = some g → rv.ownBlock ≠ some g := fun g hg e => by
    rcases hw g hg with e2 | e2
    · exact H.d g e2 e
    · have := (hrl g e).2; omega
  have h7s : W1.heap.size ≤ w7.heap.size := Nat.le_trans hsz hgr.size
  refine ⟨a, _, c, w7, hap, ⟨cell7 3 _ H.c3, x7.f 3⟩, ⟨hG, BS_set1 x7 (by decide) nofun, ?_, ?_, ?_, ?_, ?_, ?_, ?_, d7⟩, hgr, hw⟩
  · rw [cell_set_ne _ _ _ _ _ (by decide)]; exact cell7 0 _ H.c0
  · rw [cell_set_ne _ _ _ _ _ (by decide)]; exact cell7 1 _ H.c1
  · rw [cell_set_ne _ _ _ _ _ (by decide)]; exact cell7 2 _ H.c2
  · exact World.cell?_setCell_same w7 ⟨G, 3, none⟩ _ (cell7 3 _ H.c3)
  · exact gb_trans ⟨hgr.os.trans H.b.os, hgr.tape.trans H.b.tape, hgr.output.trans H.b.output, h7s, fun j hj hne => (hgr.block j (by omega) (fun e => by have := (hkl j e.symm).1; omega)).trans (H.b.block j hj hne)⟩ (gb_set w7 G 3 _)
  · rw [hs]
    exact CO_gb co (gb_set _ _ _ _) (fun i hi e => by injection e with e; have := (CO_lt co i hi).1; omega) (fun i hi _ e => by injection e with e; omega)
  · exact CO_gb R7 (gb_set _ _ _ _) (fun i hi e => by injection e with e; have := (hrl i hi).1; omega) (fun i hi _ e => by injection e with e; omega)
theorem TI_R (ty : TypeId) {l2 : List (List UInt8)} {B2 : Nat} {v2 : Value} (H : TI W1 G k pv vv ks jk jr kv rv wr) (h2 : CO B2 (fun i => kv.ownBlock ≠ some i ∧ rv.ownBlock ≠ some i) l2 v2 wr) (hB : W1.heap.size ≤ B2) (hs : cdk (ks.take (jr + 1)) = cdk (ks.take jr) ++ l2) (hn : (cdk (ks.take (jr + 1))).length ≤ 4194300) :
    ∃ a m c w7, (Builtin.append_ #[23, 23] ty #[rv, v2]).run Tryd.prog wr = .ok (.slice a m c) w7 ∧ TI W1 G k pv vv ks jk (jr + 1) kv (.slice a m c) w7 := by
  have hsz := H.b.size
  have hG := H.g
  obtain ⟨hs2, hl2, hv2, ht2⟩ := CO_heads h2
  rw [hs, List.length_append] at hn
  obtain ⟨v', w7, hap, co, hgr, hw⟩ := CO_app (m := l2) ty H.R hv2 hl2 (fun j hj => Ty_mono (ht2 j hj) (fun i hi _ => ⟨by have := hi.1; omega, hi.2.2.2, hi.2.2.1⟩)) hsz (by omega)
  obtain ⟨a, c, rfl, _⟩ := CO_form co
  have hkl := CO_lt H.K
  have hrl := CO_lt H.R
  have hGr : some G ≠ rv.ownBlock := fun e => by have := (hrl G e.symm).1; omega
  have cell7 : ∀ o u, wr.cell? ⟨G, o, none⟩ = some u → w7.cell? ⟨G, o, none⟩ = some u := fun o u c => (World.cell?_of_block (a := ⟨G, o, none⟩) (hgr.block G H.x.hi hGr)).trans c
  refine ⟨a, _, c, w7, hap, ⟨hG, BS_gb H.x hgr hGr, cell7 0 _ H.c0, cell7 1 _ H.c1, cell7 2 _ H.c2, cell7 3 _ H.c3, ⟨hgr.os.trans H.b.os, hgr.tape.trans H.b.tape, hgr.output.trans H.b.output, Nat.le_trans hsz hgr.size, fun j hj hne => (hgr.block j (by omega) (fun e => by have := (hrl j e.symm).1; omega)).trans (H.b.block j hj hne)⟩, ?_, by rw [hs]; exact co, fun g hg e => ?_⟩⟩
  · have r1 : CO W1.heap.size (fun i => rv.ownBlock ≠ some i ∧ (Value.slice a (cdk (ks.take jr) ++ l2).length c).ownBlock ≠ some i) (sms (ks.take jk)) kv wr := CO_mono H.K (fun i _ h2 h3 => ⟨h3, fun e => by
      rcases hw i e with e2 | e2
      · exact h3 e2
      · omega⟩)
    exact CO_mono (CO_gb r1 hgr (fun i hi e => H.d i hi e.symm) (fun i _ hi e => hi.1 e.symm)) (fun i _ _ h => h.2)
  · rcases hw g e with e2 | e2
    · exact H.d g hg e2
    · have := (hkl g hg).2; omega
end Rt
end Go.Proofs.YtefgamhnikeekaaDoor
namespace Go.Proofs.YtefgamhnikeekaaDoor
namespace Rt
open Nb Sp Pk Rs Go.RowKit
def KD (w : World) (g off j : Nat) (t : Nd) : Prop := ∃ p1 p2 p3 p4 p5 p6 p7 p8 p9, w.cell? ⟨g, off + j * 4, none⟩ = some (.int .i64 t.kind) ∧ w.cell? ⟨g, off + j * 4 + 1, none⟩ = some (.slice p1 p2 p3) ∧ w.cell? ⟨g, off + j * 4 + 2, none⟩ = some (.slice p4 p5 p6) ∧ w.cell? ⟨g, off + j * 4 + 3, none⟩ = some (.slice p7 p8 p9) ∧
  (∀ wx, Below w.heap.size w wx → Calls Tryd.prog 19 #[.agg #[.int .i64 t.kind, .slice p1 p2 p3, .slice p4 p5 p6, .slice p7 p8 p9]] wx (TC wx (cds t))) ∧
  (∀ x y wx, Sl (cd t) (.slice x (cd t).length y) wx → Calls Tryd.prog 21 #[.slice x (cd t).length y] wx fun e w' => e = .returned (Hv (sumf (cd t))) ∧ Below wx.heap.size wx w')
def IT (W1 : World) (G : Nat) (k : Int) (pv vv : Value) (ks : List Nd) (j : Nat) (rv : Value) (wr : World) : Prop := ∃ kv, TI W1 G k pv vv ks j j kv rv wr
theorem infoHs : (Tryd.prog.info? 36).map (·.size) = some 32 := by kernel_rfl
def Z32 : Array Value := #[.int .u8 0, .int .u8 0, .int .u8 0, .int .u8 0, .int .u8 0, .int .u8 0, .int .u8 0, .int .u8 0, .int .u8 0, .int .u8 0, .int .u8 0, .int .u8 0, .int .u8 0, .int .u8 0, .int .u8 0, .int .u8 0, .int .u8 0, .int .u8 0, .int .u8 0, .int .u8 0, .int .u8 0, .int .u8 0, .int .u8 0, .int .u8 0, .int .u8 0, .int .u8 0, .int .u8 0, .int .u8 0, .int .u8 0, .int .u8 0, .int .u8 0, .int .u8 0]
theorem there_new (w : World) (T : TypeId) : (w.alloc (.cells Z32 T)).there w.heap.size 0 32 := fun j hj => by
  have hn := heap_alloc_new w (.cells Z32 T)
  have hc : (w.alloc (.cells Z32 T)).cell? ⟨w.heap.size, 0 + j, none⟩ = Z32[j]? := by
    rw [Nat.zero_add]
    simp only [World.cell?, hn]
    exact if_neg (by decide)
  refine ⟨?_, by simp only [World.frozen?, hn]; simp⟩
  rw [hc]
  have : j < Z32.size := hj
  rw [Array.getElem?_eq_getElem this]
  rfl
theorem wpList_stH {ops : Array Oper} {rest : List Oper} {op : Oper} {a : Act} {w : World} {Q : Exit → Act → World → Prop} {x y : Operand} {g : Nat} {F : Nat → Int} (hgd : op.guard = none) (ho : op.op = .store 36 x y)
    (hx : a.eval x = .pointer (some ⟨g, 0, none⟩)) (hy : a.eval y = Hv F) (ht : w.there g 0 32)
    (h : ∀ w', w.grownBy w' (some g) → (∀ i, i < 32 → w'.cell? ⟨g, i, none⟩ = some (.int .u8 (F i))) → wpList Tryd.prog ops Q rest (a.put op.dst undef) w') : wpList Tryd.prog ops Q (op :: rest) a w := by
  have hl : (h32 F).toArray.size = 32 := by rw [List.size_toArray, h32_length]
  have ht' : w.there g 0 (h32 F).length := by rw [h32_length]; exact ht
  have hs := World.rangeAt_setCells_same w g 0 (h32 F) ht'
  refine wpList_store_mid hgd 36 x y ho g 0 (h32 F).toArray hx hy (by rw [hl]; exact ht) (by rw [hl]; exact infoHs) (all_oneCell_toArray (fun v hv => by
    obtain ⟨i, _, rfl⟩ := List.mem_map.1 hv
    rfl)) ?_
  refine h _ (Pk.gb_sets g _ 0 w) (fun i hi => ?_)
  have := hs i _ (h32_get F i hi)
  rw [Nat.zero_add] at this
  exact this
theorem sml_bz (c : List UInt8) (j : Nat) (h : j < 32) : bz (sml c) j = sumf c j := by
  have h0 : 0 ≤ sumf c j ∧ sumf c j < 256 := by
    unfold sumf hb
    constructor
    · exact Int.emod_nonneg _ (by decide)
    · exact Int.emod_lt_of_pos _ (by decide)
  unfold bz sml
  rw [List.getD_eq_getElem?_getD, List.getElem?_map, List.getElem?_range h]
  simp only [Option.map_some, Option.getD_some]
  rw [UInt8.toNat_ofNat']
  omega
theorem sml_sl {c : List UInt8} {g : Nat} {w : World} (hg : g < w.heap.size) (h : ∀ i, i < 32 → w.cell? ⟨g, i, none⟩ = some (.int .u8 (sumf c i))) : Ty (· = g) (sml c) (.slice (some ⟨g, 0, none⟩) 32 32) w :=
  ⟨_, 32, by rw [sml_len], by rw [sml_len]; exact Nat.le_refl _, fun _ => ⟨g, 0, rfl, rfl, hg, fun j hj => by
    rw [sml_len] at hj
    rw [Nat.zero_add, sml_bz c j hj]
    exact h j hj⟩⟩
theorem CO_base {B B' : Nat} {X : Nat → Prop} {l : List (List UInt8)} {v : Value} {w : World} (h : CO B X l v w) (hB : B' ≤ B) : CO B' X l v w := by
  obtain ⟨hs, hl, ho, ht⟩ := h
  refine ⟨hs, hl, ⟨ho.1, ho.2.imp id (fun ⟨g, cap, cur, h1, h2, h3⟩ => ⟨g, cap, cur, h1, Nat.le_trans hB h2, h3⟩)⟩, fun j hj => Ty_mono (ht j hj) (fun k hk _ => ⟨Nat.le_trans hB hk.1, hk.2⟩)⟩
theorem cdk_app : ∀ a b : List Nd, cdk (a ++ b) = cdk a ++ cdk b
  | [], b => by simp [cdk]
  | t :: r, b => by rw [List.cons_append, cdk, cdk_app r b, cdk, List.append_assoc]
theorem cdk_take (ks : List Nd) (n : Nat) : (cdk (ks.take n)).length ≤ (cdk ks).length := by
  conv => rhs; rw [← List.take_append_drop n ks, cdk_app, List.length_append]
  omega
theorem cds_cons (t : Nd) : ∃ r, cds t = cd t :: r := by
  obtain ⟨k, p, v, ks⟩ := t
  exact ⟨_, by rw [cds]⟩
set_option maxHeartbeats 4000000 in
set_option maxRecDepth 100000 in
theorem tc_fork (a1 a2 a3 : Option Addr) (n1 c1 n2 c2 n3 c3 : Nat) (w : World) (z : Int) (ks : List Nd) (hn : Hid (n3 = ks.length)) (hz : Hid (ks.length ≤ 1048576)) (hzz : Hid ((cdk ks).length ≤ 4194000)) (hk : Hid (0 < n3 → ∃ g off, a3 = some ⟨g, off, none⟩ ∧ g < w.heap.size ∧ ∀ j, j < n3 → KD w g off j (ks.getD j Tr.Nd.no))) (p u : List UInt8) (hp : Hid (Sl p (.slice a1 n1 c1) w)) (hu : Hid (Sl u (.slice a2 n2 c2) w)) (C : List UInt8) (KH : Hid (∀ (x : Value) (wx : World), Sh (3, p, u, sms ks) (.int .i64 3, .slice a1 n1 c1, .slice a2 n2 c2, x) wx → Calls Tryd.prog 6 #[.agg #[.int .i64 3, .slice a1 n1 c1, .slice a2 n2 c2, x]] wx fun e w' => ∃ v, e = .returned (.tuple #[v, .int .i64 z]) ∧ Sl C v w' ∧ Below wx.heap.size wx w' ∧ Nw wx.heap.size v)) :
    Calls Tryd.prog 19 #[.agg #[.int .i64 3, .slice a1 n1 c1, .slice a2 n2 c2, .slice a3 n3 c3]] w (TC w (C :: cdk ks)) := by
  have l0 : Below w.heap.size w ((w.alloc (.cells #[.int .i64 3, .slice a1 n1 c1, .slice a2 n2 c2, .slice a3 n3 c3] 32)).alloc (.cells #[.int .i64 0, .slice none 0 0, .slice none 0 0, .slice none 0 0] 25)) := ((Below.refl _ _).alloc (Nat.le_refl _) _).alloc (by simp) _
  have hs1 : (w.alloc (.cells #[.int .i64 3, .slice a1 n1 c1, .slice a2 n2 c2, .slice a3 n3 c3] 32)).heap.size = w.heap.size + 1 := by simp
  have x0 : BS (w.heap.size + 1) ((w.alloc (.cells #[.int .i64 3, .slice a1 n1 c1, .slice a2 n2 c2, .slice a3 n3 c3] 32)).alloc (.cells #[.int .i64 0, .slice none 0 0, .slice none 0 0, .slice none 0 0] 25)) := hs1 ▸ BS_new (w.alloc (.cells #[.int .i64 3, .slice a1 n1 c1, .slice a2 n2 c2, .slice a3 n3 c3] 32))
  have hbn := heap_alloc_new (w.alloc (.cells #[.int .i64 3, .slice a1 n1 c1, .slice a2 n2 c2, .slice a3 n3 c3] 32)) (.cells #[.int .i64 0, .slice none 0 0, .slice none 0 0, .slice none 0 0] 25)
  have HA := heap_alloc_new w (.cells #[.int .i64 3, .slice a1 n1 c1, .slice a2 n2 c2, .slice a3 n3 c3] 32)
  have bB : Below (w.heap.size + 1) (w.alloc (.cells #[.int .i64 3, .slice a1 n1 c1, .slice a2 n2 c2, .slice a3 n3 c3] 32)) ((w.alloc (.cells #[.int .i64 3, .slice a1 n1 c1, .slice a2 n2 c2, .slice a3 n3 c3] 32)).alloc (.cells #[.int .i64 0, .slice none 0 0, .slice none 0 0, .slice none 0 0] 25)) := (Below.refl _ _).alloc (by omega) _
  have q0 : ((w.alloc (.cells #[.int .i64 3, .slice a1 n1 c1, .slice a2 n2 c2, .slice a3 n3 c3] 32)).alloc (.cells #[.int .i64 0, .slice none 0 0, .slice none 0 0, .slice none 0 0] 25)).cell? ⟨w.heap.size, 0, none⟩ = some (.int .i64 3) := (bB.cell (p := ⟨w.heap.size, 0, none⟩) (by show w.heap.size < _; omega)).trans (by simp only [World.cell?, HA]; rfl)
  have q1 : ((w.alloc (.cells #[.int .i64 3, .slice a1 n1 c1, .slice a2 n2 c2, .slice a3 n3 c3] 32)).alloc (.cells #[.int .i64 0, .slice none 0 0, .slice none 0 0, .slice none 0 0] 25)).cell? ⟨w.heap.size, 1, none⟩ = some (.slice a1 n1 c1) := (bB.cell (p := ⟨w.heap.size, 1, none⟩) (by show w.heap.size < _; omega)).trans (by simp only [World.cell?, HA]; rfl)
  have q2 : ((w.alloc (.cells #[.int .i64 3, .slice a1 n1 c1, .slice a2 n2 c2, .slice a3 n3 c3] 32)).alloc (.cells #[.int .i64 0, .slice none 0 0, .slice none 0 0, .slice none 0 0] 25)).cell? ⟨w.heap.size, 2, none⟩ = some (.slice a2 n2 c2) := (bB.cell (p := ⟨w.heap.size, 2, none⟩) (by show w.heap.size < _; omega)).trans (by simp only [World.cell?, HA]; rfl)
  have q3 : ((w.alloc (.cells #[.int .i64 3, .slice a1 n1 c1, .slice a2 n2 c2, .slice a3 n3 c3] 32)).alloc (.cells #[.int .i64 0, .slice none 0 0, .slice none 0 0, .slice none 0 0] 25)).cell? ⟨w.heap.size, 3, none⟩ = some (.slice a3 n3 c3) := (bB.cell (p := ⟨w.heap.size, 3, none⟩) (by show w.heap.size < _; omega)).trans (by simp only [World.cell?, HA]; rfl)
  have y0 : ((w.alloc (.cells #[.int .i64 3, .slice a1 n1 c1, .slice a2 n2 c2, .slice a3 n3 c3] 32)).alloc (.cells #[.int .i64 0, .slice none 0 0, .slice none 0 0, .slice none 0 0] 25)).cell? ⟨w.heap.size + 1, 0, none⟩ = some (.int .i64 0) := by rw [hs1] at hbn; simp only [World.cell?, hbn]; rfl
  have y1 : ((w.alloc (.cells #[.int .i64 3, .slice a1 n1 c1, .slice a2 n2 c2, .slice a3 n3 c3] 32)).alloc (.cells #[.int .i64 0, .slice none 0 0, .slice none 0 0, .slice none 0 0] 25)).cell? ⟨w.heap.size + 1, 1, none⟩ = some (.slice none 0 0) := by rw [hs1] at hbn; simp only [World.cell?, hbn]; rfl
  have y2 : ((w.alloc (.cells #[.int .i64 3, .slice a1 n1 c1, .slice a2 n2 c2, .slice a3 n3 c3] 32)).alloc (.cells #[.int .i64 0, .slice none 0 0, .slice none 0 0, .slice none 0 0] 25)).cell? ⟨w.heap.size + 1, 2, none⟩ = some (.slice none 0 0) := by rw [hs1] at hbn; simp only [World.cell?, hbn]; rfl
  have y3 : ((w.alloc (.cells #[.int .i64 3, .slice a1 n1 c1, .slice a2 n2 c2, .slice a3 n3 c3] 32)).alloc (.cells #[.int .i64 0, .slice none 0 0, .slice none 0 0, .slice none 0 0] 25)).cell? ⟨w.heap.size + 1, 3, none⟩ = some (.slice none 0 0) := by rw [hs1] at hbn; simp only [World.cell?, hbn]; rfl
  have hsz : ((w.alloc (.cells #[.int .i64 3, .slice a1 n1 c1, .slice a2 n2 c2, .slice a3 n3 c3] 32)).alloc (.cells #[.int .i64 0, .slice none 0 0, .slice none 0 0, .slice none 0 0] 25)).heap.size = w.heap.size + 2 := by simp
  clear HA bB hs1 hbn
  go_enter Tryd.func19, Tryd.ntmps19
  go_upto_region 3 with fail
  generalize ((w.alloc (.cells #[.int .i64 3, .slice a1 n1 c1, .slice a2 n2 c2, .slice a3 n3 c3] 32)).alloc (.cells #[.int .i64 0, .slice none 0 0, .slice none 0 0, .slice none 0 0] 25)) = W0 at *
  obtain ⟨h, eh⟩ : ∃ h, h = w.heap.size := ⟨_, rfl⟩
  have EH : Hid (h = w.heap.size) := eh
  have L0 : Hid (Below w.heap.size w W0) := l0
  have X0 : Hid (BS (h + 1) W0) := eh ▸ x0
  have HSZ : Hid (W0.heap.size = h + 2) := by show _ = _; rw [eh]; exact hsz
  rw [← eh] at q0 q1 q2 q3 y0 y1 y2 y3 ⊢
  clear eh l0 x0 hsz
  have x1 := X0.out
  go_upto_region 8 with fail
  go_wp2_with (refine wpList_stB rfl rfl rfl rfl x1 ?_)
  intro w1 g1 xb z0 z1 z2 z3
  have LL := L0.out
  have L1 : Hid (Below w.heap.size w w1) := LL.trans ⟨g1.os, g1.tape, g1.output, g1.size, fun j hj => g1.block j (by have := LL.size; omega) (fun e => by injection e with e; have := EH.out; omega)⟩
  have q3' := (World.cell?_of_block (a := ⟨h, 3, none⟩) (g1.block h (by have := HSZ.out; omega) (fun e => by injection e with e; omega))).trans q3
  have I0 : Hid (TI w1 (h + 1) 3 (.slice a1 n1 c1) (.slice a2 n2 c2) ks 0 0 (.slice none 0 0) (.slice none 0 0) w1) := ⟨xb.hi, xb, z0, z1, z2, z3, gb_refl w1 _, CO_nil _ _ _, CO_nil _ _ _, nofun⟩
  clear g1 xb x1 LL y0 y1 y2 y3 q0 q1 q2 q3 z0 z1 z2 z3 X0 L0 HSZ
  go_wp2_with fail
  go_loopw [4, 35] (fun rv i wr => ∃ j : Nat, j ≤ n3 ∧ i = .int .i64 (j : Int) ∧ IT w1 (h + 1) 3 (.slice a1 n1 c1) (.slice a2 n2 c2) ks j rv wr) (fun _ i _ => ((n3 : Int) - intOf i).toNat)
  case atStart => exact ⟨0, Nat.zero_le _, rfl, ⟨_, I0.out⟩⟩
  case round =>
    clear I0
    obtain ⟨j, hj, rfl, kv, hI⟩ := hrel
    have HI : Hid (TI w1 (h + 1) 3 (.slice a1 n1 c1) (.slice a2 n2 c2) ks j j kv u4 wr) := hI
    obtain ⟨ra, rc, rfl, _⟩ := CO_form hI.R
    obtain ⟨ka, kc, rfl, _⟩ := CO_form hI.K
    clear hI
    by_cases j1 : j < n3
    · have d0 : (j : Int) < (n3 : Int) := by omega
      have d1 : (0 : Int) ≤ (j : Int) := by omega
      have hw := Nb.stp j (by have := hz.out; have := hn.out; show _ ≤ _; omega)
      have hjl : j < ks.length := by have := hn.out; omega
      obtain ⟨g, off, rfl, hg, hc⟩ := hk.out (by omega)
      obtain ⟨p1, p2, p3, p4, p5, p6, p7, p8, p9, k0, k1, k2, k3, kt, ksum⟩ := hc j j1
      have blk : ∀ o v, w.cell? ⟨g, o, none⟩ = some v → wr.cell? ⟨g, o, none⟩ = some v := fun o v c => (World.cell?_of_block (a := ⟨g, o, none⟩) (HI.out.b.block g (Nat.lt_of_lt_of_le hg L1.out.size) (fun e => by injection e with e; have := EH.out; omega))).trans ((L1.out.cell (p := ⟨g, o, none⟩) hg).trans c)
      have r0 := blk _ _ k0
      have r1 := blk _ _ k1
      have r2 := blk _ _ k2
      have r3 := blk _ _ k3
      have KT : Hid _ := kt
      have KS : Hid _ := ksum
      have HJ1 : Hid (j < n3) := j1
      have HS1 : Hid (sms (ks.take (j + 1)) = sms (ks.take j) ++ [if (ks.getD j Tr.Nd.no).kind = 0 then [] else sml (cd (ks.getD j Tr.Nd.no))]) := sms_snoc ks j hjl
      have HC1 : Hid (cdk (ks.take (j + 1)) = cdk (ks.take j) ++ (if (ks.getD j Tr.Nd.no).kind = 0 then [] else cds (ks.getD j Tr.Nd.no))) := cdk_snoc ks j hjl
      have LW : Hid (Below w.heap.size w wr) := by
        have hb := HI.out.b
        have hl := L1.out
        exact ⟨hb.os.trans hl.os, hb.tape.trans hl.tape, hb.output.trans hl.output, Nat.le_trans hl.size hb.size, fun i hi => (hb.block i (Nat.lt_of_lt_of_le hi hl.size) (fun e => by injection e with e; have := EH.out; omega)).trans (hl.block i hi)⟩
      clear kt ksum hc hg k0 k1 k2 k3 blk hjl j1
      generalize hT : ks.getD j Tr.Nd.no = T at *
      have bA : Below wr.heap.size wr (wr.alloc (.cells #[.int .i64 T.kind, .slice p1 p2 p3, .slice p4 p5 p6, .slice p7 p8 p9] 32)) := (Below.refl _ _).alloc (Nat.le_refl _) _
      have HIA : Hid (TI w1 (h + 1) 3 (.slice a1 n1 c1) (.slice a2 n2 c2) ks j j (.slice ka (sms (ks.take j)).length kc) (.slice ra (cdk (ks.take j)).length rc) (wr.alloc (.cells #[.int .i64 T.kind, .slice p1 p2 p3, .slice p4 p5 p6, .slice p7 p8 p9] 32))) := TI_below HI.out bA
      have c3A := HIA.out.c3
      have hsA : (wr.alloc (.cells #[.int .i64 T.kind, .slice p1 p2 p3, .slice p4 p5 p6, .slice p7 p8 p9] 32)).heap.size = wr.heap.size + 1 := by simp
      have LWA : Hid (Below w.heap.size w (wr.alloc (.cells #[.int .i64 T.kind, .slice p1 p2 p3, .slice p4 p5 p6, .slice p7 p8 p9] 32))) := LW.out.trans (bA.mono LW.out.size)
      by_cases hk0 : T.kind = 0
      · rw [if_pos hk0] at HS1 HC1
        have bB : Below (wr.alloc (.cells #[.int .i64 T.kind, .slice p1 p2 p3, .slice p4 p5 p6, .slice p7 p8 p9] 32)).heap.size (wr.alloc (.cells #[.int .i64 T.kind, .slice p1 p2 p3, .slice p4 p5 p6, .slice p7 p8 p9] 32)) ((wr.alloc (.cells #[.int .i64 T.kind, .slice p1 p2 p3, .slice p4 p5 p6, .slice p7 p8 p9] 32)).alloc (.cells #[.slice none 0 0] 22)) := (Below.refl _ _).alloc (Nat.le_refl _) _
        have HB := heap_alloc_new (wr.alloc (.cells #[.int .i64 T.kind, .slice p1 p2 p3, .slice p4 p5 p6, .slice p7 p8 p9] 32)) (.cells #[.slice none 0 0] 22)
        rw [hsA] at HB
        have vB : Vl [.slice none 0 0] (.slice (some ⟨wr.heap.size + 1, 0, none⟩) 1 1) ((wr.alloc (.cells #[.int .i64 T.kind, .slice p1 p2 p3, .slice p4 p5 p6, .slice p7 p8 p9] 32)).alloc (.cells #[.slice none 0 0] 22)) := ⟨_, 1, rfl, fun _ => ⟨_, 0, rfl, by simp, fun i hi => by
          have : i = 0 := by simp at hi; omega
          subst this
          simp only [World.cell?, HB]
          rfl⟩⟩
        obtain ⟨a7, m7, c7, w7, hap, ⟨ck7, fz7⟩, hI7, _, _⟩ := TI_K 23 (TI_below HIA.out bB) vB (Ty_nil _ _) HS1.out hz.out
        have HI7 : Hid (TI w1 (h + 1) 3 (.slice a1 n1 c1) (.slice a2 n2 c2) ks (j + 1) (j + 1) (.slice a7 m7 c7) (.slice ra (cdk (ks.take j)).length rc) (w7.setCell ⟨h + 1, 3, none⟩ (.slice a7 m7 c7))) := ⟨hI7.g, hI7.x, hI7.c0, hI7.c1, hI7.c2, hI7.c3, hI7.b, hI7.K, by rw [HC1.out, List.append_nil]; exact hI7.R, hI7.d⟩
        clear hI7 bB HB vB HIA bA hsA LWA LW KT KS HI HS1 HC1 hT
        have e0 : (T.kind == 0) = true := by rw [hk0]; rfl
        clear hk0
        generalize (cdk (ks.take j)).length = rl at *
        generalize (sms (ks.take j)).length = kl at *
        go_wp2_with (at_builtin; refine wpList_apw rfl rfl rfl rfl hap ?_)
        have hw := hw.out
        go_roundw
        case rel => exact ⟨j + 1, HJ1.out, Nb.step_v j _ hw, ⟨_, HI7.out⟩⟩
        case measure => exact Nb.msr j n3 HJ1.out _ hw
      · rw [if_neg hk0] at HS1 HC1
        have e0 : (T.kind == 0) = false := beq_eq_false_iff_ne.2 hk0
        have HAN := heap_alloc_new wr (.cells #[.int .i64 T.kind, .slice p1 p2 p3, .slice p4 p5 p6, .slice p7 p8 p9] 32)
        have HKB : Hid (∀ g, (Value.slice ka (sms (ks.take j)).length kc).ownBlock = some g → g < wr.heap.size) := fun g hg => (CO_lt HI.out.K g hg).2
        have HRB : Hid (∀ g, (Value.slice ra (cdk (ks.take j)).length rc).ownBlock = some g → g < wr.heap.size) := fun g hg => (CO_lt HI.out.R g hg).2
        clear HI LW
        go_wp2_with fail
        refine Calls.mono (KT.out _ LWA.out) ?_
        rintro e w3 ⟨v3, rfl, co3, b3⟩
        obtain ⟨r, er⟩ := cds_cons T
        have CO3 : Hid (CO (wr.alloc (.cells #[.int .i64 T.kind, .slice p1 p2 p3, .slice p4 p5 p6, .slice p7 p8 p9] 32)).heap.size (fun _ => True) (cds T) v3 w3) := co3
        obtain ⟨hs, hl, ⟨ao, cap, ev, hL⟩, ht⟩ := CO_heads co3
        have hlen : 0 < (cds T).length := by rw [er]; simp
        obtain ⟨g2, o2, rfl, hg2, hc2⟩ := hL (by omega)
        have t0 := ht 0 hlen
        rw [show (cds T).getD 0 [] = cd T by rw [er]; rfl] at t0
        have s0 := Ty_sl t0
        obtain ⟨x0, y0, e5⟩ := Sl_fm s0
        have cell0 := hc2 0 (by omega)
        have e6 : hs[0]? = some (.slice x0 (cd T).length y0) := by
          rw [← e5, List.getD_eq_getElem?_getD, List.getElem?_eq_getElem (by omega)]
          rfl
        rw [e6, Nat.add_zero] at cell0
        rw [e5] at s0
        rw [hl] at ev
        subst ev
        have hl0 : (0 : Int) < ((cds T).length : Int) := by omega
        have HI3 : Hid (TI w1 (h + 1) 3 (.slice a1 n1 c1) (.slice a2 n2 c2) ks j j (.slice ka (sms (ks.take j)).length kc) (.slice ra (cdk (ks.take j)).length rc) w3) := TI_below HIA.out b3
        have KS2 : Hid _ := KS.out x0 y0 w3 s0
        have HL3 : Hid (Below w.heap.size w w3) := LWA.out.trans (b3.mono LWA.out.size)
        have HW3 : Hid (wr.heap.size < (wr.alloc (.cells #[.int .i64 T.kind, .slice p1 p2 p3, .slice p4 p5 p6, .slice p7 p8 p9] 32)).heap.size ∧ (wr.alloc (.cells #[.int .i64 T.kind, .slice p1 p2 p3, .slice p4 p5 p6, .slice p7 p8 p9] 32)).heap.size ≤ w3.heap.size ∧ w1.heap.size ≤ (wr.alloc (.cells #[.int .i64 T.kind, .slice p1 p2 p3, .slice p4 p5 p6, .slice p7 p8 p9] 32)).heap.size) := ⟨by omega, b3.size, HIA.out.b.size⟩
        clear co3 hL ht t0 s0 hc2 e5 e6 b3 HIA KS KT LWA c3A bA hl hg2
        generalize (cdk (ks.take j)).length = rl at *
        generalize (sms (ks.take j)).length = kl at *
        generalize (cds T).length = dl at *
        go_wp2_with fail
        refine Calls.mono KS2.out ?_
        rintro e w4 ⟨rfl, b4⟩
        have bZ : Below w4.heap.size w4 (w4.alloc (.cells Z32 36)) := (Below.refl _ _).alloc (Nat.le_refl _) _
        have thZ := there_new w4 36
        have hz4 : w4.heap.size < (w4.alloc (.cells Z32 36)).heap.size := by simp
        have B4 : Hid (Below w3.heap.size w3 w4) := b4
        have BZ : Hid (Below w4.heap.size w4 (w4.alloc (.cells Z32 36)) ∧ w4.heap.size < (w4.alloc (.cells Z32 36)).heap.size) := ⟨bZ, hz4⟩
        clear KS2 b4 bZ hz4
        unfold Z32 at thZ BZ
        go_wp2_with (refine wpList_stH rfl rfl rfl rfl thZ ?_)
        intro w5 g5 cz
        have b45 : Below w4.heap.size w4 w5 := BZ.out.1.trans ⟨g5.os, g5.tape, g5.output, g5.size, fun i hi => g5.block i (by have := BZ.out.2; omega) (fun e => by injection e with e; omega)⟩
        have hg8 : w4.heap.size < w5.heap.size := Nat.lt_of_lt_of_le BZ.out.2 g5.size
        have b35 := B4.out.trans (b45.mono B4.out.size)
        have HI5 : Hid _ := TI_below HI3.out b35
        have CO5 : Hid _ := CO_below CO3.out b35
        have HL5 : Hid (Below w.heap.size w w5) := HL3.out.trans (b35.mono HL3.out.size)
        have TY5 : Hid (Ty (· = w4.heap.size) (sml (cd T)) (.slice (some ⟨w4.heap.size, 0, none⟩) 32 32) w5) := sml_sl hg8 cz
        have HSZ4 : Hid (w3.heap.size ≤ w4.heap.size) := B4.out.size
        have C35 : Hid (w5.cell? ⟨h + 1, 3, none⟩ = some (.slice ka kl kc) ∧ h + 1 < w5.heap.size) := ⟨HI5.out.c3, HI5.out.x.hi⟩
        clear b35 b45 hg8 g5 cz BZ B4 HI3 CO3 HL3 thZ
        obtain ⟨g8, hg8⟩ : ∃ g8, g8 = w4.heap.size := ⟨_, rfl⟩
        rw [← hg8] at TY5 HSZ4 ⊢
        clear hg8
        have hL : RG.Lasts (fun wx => Below w5.heap.size w5 wx) (fun _ v wx => ∃ g6, v = .slice (some ⟨g6, 0, none⟩) 1 1 ∧ g6 < wx.heap.size ∧ wx.cell? ⟨g6, 0, none⟩ = some (.slice (some ⟨g8, 0, none⟩) 32 32)) := ⟨fun _ _ h hb => h.trans (hb.mono h.size), fun _ _ _ _ h hb => by
          obtain ⟨g6, e1, e2, e3⟩ := h
          exact ⟨g6, e1, Nat.lt_of_lt_of_le e2 hb.size, (hb.cell (p := ⟨g6, 0, none⟩) e2).trans e3⟩⟩
        go_upto_region 16 with fail
        refine RG.wp_region_gen (fun wx => Below w5.heap.size w5 wx) (fun _ v wx => ∃ g6, v = .slice (some ⟨g6, 0, none⟩) 1 1 ∧ g6 < wx.heap.size ∧ wx.cell? ⟨g6, 0, none⟩ = some (.slice (some ⟨g8, 0, none⟩) 32 32)) (fun _ _ => True) [0, 0, 0, 1, 2, 2, 2] (by kernel_rfl) (by kernel_rfl) ((Below.refl _ _).drew) ?_
        dsimp only [List.toList_toArray]
        refine RG.go1 (v := ?_) (a' := ?_) hL (by decide) rfl ?_ ?_ ?_
        rotate_left 2
        · intro K wx hS hK
          go_simp
          exact hK _ (Below.refl _ _)
        · simp only [Act.put, List.setIfInBounds_toArray, List.set_cons_succ, List.set_cons_zero]
          rfl
        refine RG.go1 (v := ?_) (a' := ?_) hL (by decide) rfl ?_ ?_ ?_
        rotate_left 2
        · intro K wx hS hK
          have z0 := (hS.cell (p := ⟨h + 1, 3, none⟩) C35.out.2).trans C35.out.1
          go_simp
          exact hK _ (Below.refl _ _)
        · simp only [Act.put, List.setIfInBounds_toArray, List.set_cons_succ, List.set_cons_zero]
          rfl
        refine RG.go1 (v := ?_) (a' := ?_) hL (by decide) rfl ?_ ?_ ?_
        rotate_left 2
        · intro K wx hS hK
          go_simp
          exact hK _ (Below.refl _ _)
        · simp only [Act.put, List.setIfInBounds_toArray, List.set_cons_succ, List.set_cons_zero]
          rfl
        refine RG.goN hL rfl ?_ ?_
        · intro K wx hS hK
          have hn := heap_alloc_new wx (.cells #[.slice (some ⟨g8, 0, none⟩) 32 32] 22)
          go_simp
          exact hK _ _ ((Below.refl _ _).alloc (Nat.le_refl _) _) ⟨_, rfl, by simp, by simp only [World.cell?, hn]; rfl⟩ (fun _ _ _ => ⟨trivial, trivial⟩)
        refine RG.goT ?_
        refine RG.goT ?_
        refine RG.goT ?_
        refine RG.go_end ?_
        intro U w9 m9 y9 x9
        simp +decide (maxSteps := 1000000) only [RG.tl, RG.putN, if_true, if_false, Act.put, List.setIfInBounds_toArray, List.set_cons_succ, List.set_cons_zero, Nat.reduceAdd]
        obtain ⟨g6, e6, hg6, c6⟩ := y9 3 rfl
        have TI9 := TI_below HI5.out m9
        have v9 : Vl [.slice (some ⟨g8, 0, none⟩) 32 32] (.slice (some ⟨g6, 0, none⟩) 1 1) w9 := ⟨_, 1, rfl, fun _ => ⟨g6, 0, rfl, hg6, fun i hi => by
          have : i = 0 := by simp at hi; omega
          subst this
          exact c6⟩⟩
        have hG := TI9.g
        have t9 : Ty (fun i => w1.heap.size ≤ i ∧ (Value.slice ka kl kc).ownBlock ≠ some i ∧ (Value.slice ra rl rc).ownBlock ≠ some i) (sml (cd T)) (.slice (some ⟨g8, 0, none⟩) 32 32) w9 := Ty_mono (Ty_gb (r := none) TY5.out (gb_below m9) (fun _ _ => nofun)) (fun i hi _ => by
          subst hi
          have h1 := HW3.out
          have h2 := HSZ4.out
          exact ⟨by omega, fun e => by have := HKB.out _ e; omega, fun e => by have := HRB.out _ e; omega⟩)
        obtain ⟨a7, m7, c7, w7, hap, ⟨ck7, fz7⟩, hI7, hgr7, hw7⟩ := TI_K 23 TI9 v9 t9 HS1.out hz.out
        have co9 := CO_below CO5.out m9
        have CO8 : Hid (CO (wr.alloc (.cells #[.int .i64 T.kind, .slice p1 p2 p3, .slice p4 p5 p6, .slice p7 p8 p9] 32)).heap.size (fun i => (Value.slice a7 m7 c7).ownBlock ≠ some i ∧ (Value.slice ra rl rc).ownBlock ≠ some i) (cds T) (.slice (some ⟨g2, o2, none⟩) dl cap) (w7.setCell ⟨h + 1, 3, none⟩ (.slice a7 m7 c7))) := by
          have h1 := HW3.out
          have hl3 := CO_lt co9
          have k1 : CO (wr.alloc (.cells #[.int .i64 T.kind, .slice p1 p2 p3, .slice p4 p5 p6, .slice p7 p8 p9] 32)).heap.size (fun i => (Value.slice a7 m7 c7).ownBlock ≠ some i ∧ (Value.slice ra rl rc).ownBlock ≠ some i) (cds T) (.slice (some ⟨g2, o2, none⟩) dl cap) w9 := CO_mono co9 (fun i hi hi2 _ => ⟨fun e => by
            rcases hw7 i e with e2 | e2
            · have := HKB.out _ e2; omega
            · omega, fun e => by have := HRB.out _ e; omega⟩)
          have k2 := CO_gb k1 hgr7 (fun i hi e => by have := (hl3 i hi).1; have := HKB.out _ e.symm; omega) (fun i hi _ e => by have := HKB.out _ e.symm; omega)
          exact CO_gb k2 (gb_set _ _ _ _) (fun i hi e => by injection e with e; have := (hl3 i hi).1; omega) (fun i hi _ e => by injection e with e; omega)
        have HCL : Hid ((cdk (ks.take (j + 1))).length ≤ 4194300) := by
          have := cdk_take ks (j + 1)
          have := hzz.out
          show _ ≤ _
          omega
        obtain ⟨a8, m8, c8, w8, hap2, hI8⟩ := TI_R 23 hI7 CO8.out HW3.out.2.2 HC1.out HCL.out
        have HI8 : Hid (TI w1 (h + 1) 3 (.slice a1 n1 c1) (.slice a2 n2 c2) ks (j + 1) (j + 1) (.slice a7 m7 c7) (.slice a8 m8 c8) w8) := hI8
        rw [e6]
        clear hI8 hI7 CO8 co9 t9 v9 TI9 c6 hg6 e6 y9 x9 m9 hL C35 TY5 HI5 CO5 HL5 HSZ4 HW3 HKB HRB hgr7 hw7 HS1 HC1 HCL hT hG
        go_upto_region 17 with (at_builtin; refine wpList_apw rfl rfl rfl rfl hap ?_)
        generalize w7.setCell ⟨h + 1, 3, none⟩ (.slice a7 m7 c7) = w7' at *
        clear hap ck7 fz7
        go_wp2_with (at_builtin; refine wpList_apw rfl rfl rfl rfl hap2 ?_)
        have hw := hw.out
        go_roundw
        case rel => exact ⟨j + 1, HJ1.out, Nb.step_v j _ hw, ⟨_, HI8.out⟩⟩
        case measure => exact Nb.msr j n3 HJ1.out _ hw
    · have hjn : j = n3 := by omega
      have e1 : ks.take j = ks := List.take_of_length_le (by have := hn.out; omega)
      have hI := HI.out
      rw [e1] at hI
      have hK := hI.K
      have hR := hI.R
      rw [e1] at hK hR
      have LW : Hid (Below w.heap.size w wr) := by
        have hb := hI.b
        have hl := L1.out
        exact ⟨hb.os.trans hl.os, hb.tape.trans hl.tape, hb.output.trans hl.output, Nat.le_trans hl.size hb.size, fun i hi => (hb.block i (Nat.lt_of_lt_of_le hi hl.size) (fun e => by injection e with e; have := EH.out; omega)).trans (hl.block i hi)⟩
      have S1 : Hid (Sh (3, p, u, sms ks) (.int .i64 3, .slice a1 n1 c1, .slice a2 n2 c2, .slice ka (sms ks).length kc) wr) := ⟨rfl, Sl_below hp.out LW.out, Sl_below hu.out LW.out, CO_ls hK⟩
      have R1 : Hid (CO w.heap.size (fun i => (Value.slice ka (sms ks).length kc).ownBlock ≠ some i) (cdk ks) (.slice ra (cdk ks).length rc) wr) := CO_base hR L1.out.size
      have c0 := hI.c0
      have c1' := hI.c1
      have c2' := hI.c2
      have c3' := hI.c3
      rw [e1]
      clear hI HI hK hR e1 L1 j1 hj hk
      subst hjn
      go_wp2_with fail
      refine (KH.out _ _ S1.out).mono ?_
      rintro e w5 ⟨v, rfl, sc, bc, nc⟩
      obtain ⟨ca, cc, rfl⟩ := Sl_fm sc
      have l5 : Below w.heap.size w w5 := (LW.out).trans (bc.mono (LW.out).size)
      obtain ⟨v', w7, hap, co, b7⟩ := CO_cons 23 l5.size (Ty_mono (nw_ty sc nc) (fun k hk _ => Nat.le_trans (LW.out).size hk)) (CO_below R1.out bc) (by have := hzz.out; omega)
      obtain ⟨va, vc, rfl, _⟩ := CO_form co
      have HR : Hid _ := And.intro co (l5.trans (b7.mono l5.size))
      clear sc bc nc l5 co b7 KH
      generalize C.length = cl at *
      go_wp2_with (at_builtin; refine wpList_apw rfl rfl rfl rfl hap ?_)
      go_ret
      exact ⟨_, rfl, HR.out⟩
set_option maxHeartbeats 4000000 in
set_option maxRecDepth 100000 in
theorem tc_road (a1 a2 a3 : Option Addr) (n1 c1 n2 c2 n3 c3 : Nat) (w : World) (z : Int) (ks : List Nd) (hn : Hid (n3 = ks.length)) (hz : Hid (ks.length ≤ 1048576)) (hzz : Hid ((cdk ks).length ≤ 4194000)) (hk : Hid (0 < n3 → ∃ g off, a3 = some ⟨g, off, none⟩ ∧ g < w.heap.size ∧ ∀ j, j < n3 → KD w g off j (ks.getD j Tr.Nd.no))) (p u : List UInt8) (hp : Hid (Sl p (.slice a1 n1 c1) w)) (hu : Hid (Sl u (.slice a2 n2 c2) w)) (C : List UInt8) (KH : Hid (∀ (x : Value) (wx : World), Sh (2, p, u, sms ks) (.int .i64 2, .slice a1 n1 c1, .slice a2 n2 c2, x) wx → Calls Tryd.prog 6 #[.agg #[.int .i64 2, .slice a1 n1 c1, .slice a2 n2 c2, x]] wx fun e w' => ∃ v, e = .returned (.tuple #[v, .int .i64 z]) ∧ Sl C v w' ∧ Below wx.heap.size wx w' ∧ Nw wx.heap.size v)) :
    Calls Tryd.prog 19 #[.agg #[.int .i64 2, .slice a1 n1 c1, .slice a2 n2 c2, .slice a3 n3 c3]] w (TC w (C :: cdk ks)) := by
  have l0 : Below w.heap.size w ((w.alloc (.cells #[.int .i64 2, .slice a1 n1 c1, .slice a2 n2 c2, .slice a3 n3 c3] 32)).alloc (.cells #[.int .i64 0, .slice none 0 0, .slice none 0 0, .slice none 0 0] 25)) := ((Below.refl _ _).alloc (Nat.le_refl _) _).alloc (by simp) _
  have hs1 : (w.alloc (.cells #[.int .i64 2, .slice a1 n1 c1, .slice a2 n2 c2, .slice a3 n3 c3] 32)).heap.size = w.heap.size + 1 := by simp
  have x0 : BS (w.heap.size + 1) ((w.alloc (.cells #[.int .i64 2, .slice a1 n1 c1, .slice a2 n2 c2, .slice a3 n3 c3] 32)).alloc (.cells #[.int .i64 0, .slice none 0 0, .slice none 0 0, .slice none 0 0] 25)) := hs1 ▸ BS_new (w.alloc (.cells #[.int .i64 2, .slice a1 n1 c1, .slice a2 n2 c2, .slice a3 n3 c3] 32))
  have hbn := heap_alloc_new (w.alloc (.cells #[.int .i64 2, .slice a1 n1 c1, .slice a2 n2 c2, .slice a3 n3 c3] 32)) (.cells #[.int .i64 0, .slice none 0 0, .slice none 0 0, .slice none 0 0] 25)
  have HA := heap_alloc_new w (.cells #[.int .i64 2, .slice a1 n1 c1, .slice a2 n2 c2, .slice a3 n3 c3] 32)
  have bB : Below (w.heap.size + 1) (w.alloc (.cells #[.int .i64 2, .slice a1 n1 c1, .slice a2 n2 c2, .slice a3 n3 c3] 32)) ((w.alloc (.cells #[.int .i64 2, .slice a1 n1 c1, .slice a2 n2 c2, .slice a3 n3 c3] 32)).alloc (.cells #[.int .i64 0, .slice none 0 0, .slice none 0 0, .slice none 0 0] 25)) := (Below.refl _ _).alloc (by omega) _
  have q0 : ((w.alloc (.cells #[.int .i64 2, .slice a1 n1 c1, .slice a2 n2 c2, .slice a3 n3 c3] 32)).alloc (.cells #[.int .i64 0, .slice none 0 0, .slice none 0 0, .slice none 0 0] 25)).cell? ⟨w.heap.size, 0, none⟩ = some (.int .i64 2) := (bB.cell (p := ⟨w.heap.size, 0, none⟩) (by show w.heap.size < _; omega)).trans (by simp only [World.cell?, HA]; rfl)
  have q1 : ((w.alloc (.cells #[.int .i64 2, .slice a1 n1 c1, .slice a2 n2 c2, .slice a3 n3 c3] 32)).alloc (.cells #[.int .i64 0, .slice none 0 0, .slice none 0 0, .slice none 0 0] 25)).cell? ⟨w.heap.size, 1, none⟩ = some (.slice a1 n1 c1) := (bB.cell (p := ⟨w.heap.size, 1, none⟩) (by show w.heap.size < _; omega)).trans (by simp only [World.cell?, HA]; rfl)
  have q2 : ((w.alloc (.cells #[.int .i64 2, .slice a1 n1 c1, .slice a2 n2 c2, .slice a3 n3 c3] 32)).alloc (.cells #[.int .i64 0, .slice none 0 0, .slice none 0 0, .slice none 0 0] 25)).cell? ⟨w.heap.size, 2, none⟩ = some (.slice a2 n2 c2) := (bB.cell (p := ⟨w.heap.size, 2, none⟩) (by show w.heap.size < _; omega)).trans (by simp only [World.cell?, HA]; rfl)
  have q3 : ((w.alloc (.cells #[.int .i64 2, .slice a1 n1 c1, .slice a2 n2 c2, .slice a3 n3 c3] 32)).alloc (.cells #[.int .i64 0, .slice none 0 0, .slice none 0 0, .slice none 0 0] 25)).cell? ⟨w.heap.size, 3, none⟩ = some (.slice a3 n3 c3) := (bB.cell (p := ⟨w.heap.size, 3, none⟩) (by show w.heap.size < _; omega)).trans (by simp only [World.cell?, HA]; rfl)
  have y0 : ((w.alloc (.cells #[.int .i64 2, .slice a1 n1 c1, .slice a2 n2 c2, .slice a3 n3 c3] 32)).alloc (.cells #[.int .i64 0, .slice none 0 0, .slice none 0 0, .slice none 0 0] 25)).cell? ⟨w.heap.size + 1, 0, none⟩ = some (.int .i64 0) := by rw [hs1] at hbn; simp only [World.cell?, hbn]; rfl
  have y1 : ((w.alloc (.cells #[.int .i64 2, .slice a1 n1 c1, .slice a2 n2 c2, .slice a3 n3 c3] 32)).alloc (.cells #[.int .i64 0, .slice none 0 0, .slice none 0 0, .slice none 0 0] 25)).cell? ⟨w.heap.size + 1, 1, none⟩ = some (.slice none 0 0) := by rw [hs1] at hbn; simp only [World.cell?, hbn]; rfl
  have y2 : ((w.alloc (.cells #[.int .i64 2, .slice a1 n1 c1, .slice a2 n2 c2, .slice a3 n3 c3] 32)).alloc (.cells #[.int .i64 0, .slice none 0 0, .slice none 0 0, .slice none 0 0] 25)).cell? ⟨w.heap.size + 1, 2, none⟩ = some (.slice none 0 0) := by rw [hs1] at hbn; simp only [World.cell?, hbn]; rfl
  have y3 : ((w.alloc (.cells #[.int .i64 2, .slice a1 n1 c1, .slice a2 n2 c2, .slice a3 n3 c3] 32)).alloc (.cells #[.int .i64 0, .slice none 0 0, .slice none 0 0, .slice none 0 0] 25)).cell? ⟨w.heap.size + 1, 3, none⟩ = some (.slice none 0 0) := by rw [hs1] at hbn; simp only [World.cell?, hbn]; rfl
  have hsz : ((w.alloc (.cells #[.int .i64 2, .slice a1 n1 c1, .slice a2 n2 c2, .slice a3 n3 c3] 32)).alloc (.cells #[.int .i64 0, .slice none 0 0, .slice none 0 0, .slice none 0 0] 25)).heap.size = w.heap.size + 2 := by simp
  clear HA bB hs1 hbn
  go_enter Tryd.func19, Tryd.ntmps19
  go_upto_region 3 with fail
  generalize ((w.alloc (.cells #[.int .i64 2, .slice a1 n1 c1, .slice a2 n2 c2, .slice a3 n3 c3] 32)).alloc (.cells #[.int .i64 0, .slice none 0 0, .slice none 0 0, .slice none 0 0] 25)) = W0 at *
  obtain ⟨h, eh⟩ : ∃ h, h = w.heap.size := ⟨_, rfl⟩
  have EH : Hid (h = w.heap.size) := eh
  have L0 : Hid (Below w.heap.size w W0) := l0
  have X0 : Hid (BS (h + 1) W0) := eh ▸ x0
  have HSZ : Hid (W0.heap.size = h + 2) := by show _ = _; rw [eh]; exact hsz
  rw [← eh] at q0 q1 q2 q3 y0 y1 y2 y3 ⊢
  clear eh l0 x0 hsz
  have x1 := X0.out
  go_upto_region 8 with fail
  go_wp2_with (refine wpList_stB rfl rfl rfl rfl x1 ?_)
  intro w1 g1 xb z0 z1 z2 z3
  have LL := L0.out
  have L1 : Hid (Below w.heap.size w w1) := LL.trans ⟨g1.os, g1.tape, g1.output, g1.size, fun j hj => g1.block j (by have := LL.size; omega) (fun e => by injection e with e; have := EH.out; omega)⟩
  have q3' := (World.cell?_of_block (a := ⟨h, 3, none⟩) (g1.block h (by have := HSZ.out; omega) (fun e => by injection e with e; omega))).trans q3
  have I0 : Hid (TI w1 (h + 1) 2 (.slice a1 n1 c1) (.slice a2 n2 c2) ks 0 0 (.slice none 0 0) (.slice none 0 0) w1) := ⟨xb.hi, xb, z0, z1, z2, z3, gb_refl w1 _, CO_nil _ _ _, CO_nil _ _ _, nofun⟩
  clear g1 xb x1 LL y0 y1 y2 y3 q0 q1 q2 q3 z0 z1 z2 z3 X0 L0 HSZ
  go_wp2_with fail
  go_loopw [4, 35] (fun rv i wr => ∃ j : Nat, j ≤ n3 ∧ i = .int .i64 (j : Int) ∧ IT w1 (h + 1) 2 (.slice a1 n1 c1) (.slice a2 n2 c2) ks j rv wr) (fun _ i _ => ((n3 : Int) - intOf i).toNat)
  case atStart => exact ⟨0, Nat.zero_le _, rfl, ⟨_, I0.out⟩⟩
  case round =>
    clear I0
    obtain ⟨j, hj, rfl, kv, hI⟩ := hrel
    have HI : Hid (TI w1 (h + 1) 2 (.slice a1 n1 c1) (.slice a2 n2 c2) ks j j kv u4 wr) := hI
    obtain ⟨ra, rc, rfl, _⟩ := CO_form hI.R
    obtain ⟨ka, kc, rfl, _⟩ := CO_form hI.K
    clear hI
    by_cases j1 : j < n3
    · have d0 : (j : Int) < (n3 : Int) := by omega
      have d1 : (0 : Int) ≤ (j : Int) := by omega
      have hw := Nb.stp j (by have := hz.out; have := hn.out; show _ ≤ _; omega)
      have hjl : j < ks.length := by have := hn.out; omega
      obtain ⟨g, off, rfl, hg, hc⟩ := hk.out (by omega)
      obtain ⟨p1, p2, p3, p4, p5, p6, p7, p8, p9, k0, k1, k2, k3, kt, ksum⟩ := hc j j1
      have blk : ∀ o v, w.cell? ⟨g, o, none⟩ = some v → wr.cell? ⟨g, o, none⟩ = some v := fun o v c => (World.cell?_of_block (a := ⟨g, o, none⟩) (HI.out.b.block g (Nat.lt_of_lt_of_le hg L1.out.size) (fun e => by injection e with e; have := EH.out; omega))).trans ((L1.out.cell (p := ⟨g, o, none⟩) hg).trans c)
      have r0 := blk _ _ k0
      have r1 := blk _ _ k1
      have r2 := blk _ _ k2
      have r3 := blk _ _ k3
      have KT : Hid _ := kt
      have KS : Hid _ := ksum
      have HJ1 : Hid (j < n3) := j1
      have HS1 : Hid (sms (ks.take (j + 1)) = sms (ks.take j) ++ [if (ks.getD j Tr.Nd.no).kind = 0 then [] else sml (cd (ks.getD j Tr.Nd.no))]) := sms_snoc ks j hjl
      have HC1 : Hid (cdk (ks.take (j + 1)) = cdk (ks.take j) ++ (if (ks.getD j Tr.Nd.no).kind = 0 then [] else cds (ks.getD j Tr.Nd.no))) := cdk_snoc ks j hjl
      have LW : Hid (Below w.heap.size w wr) := by
        have hb := HI.out.b
        have hl := L1.out
        exact ⟨hb.os.trans hl.os, hb.tape.trans hl.tape, hb.output.trans hl.output, Nat.le_trans hl.size hb.size, fun i hi => (hb.block i (Nat.lt_of_lt_of_le hi hl.size) (fun e => by injection e with e; have := EH.out; omega)).trans (hl.block i hi)⟩
      clear kt ksum hc hg k0 k1 k2 k3 blk hjl j1
      generalize hT : ks.getD j Tr.Nd.no = T at *
      have bA : Below wr.heap.size wr (wr.alloc (.cells #[.int .i64 T.kind, .slice p1 p2 p3, .slice p4 p5 p6, .slice p7 p8 p9] 32)) := (Below.refl _ _).alloc (Nat.le_refl _) _
      have HIA : Hid (TI w1 (h + 1) 2 (.slice a1 n1 c1) (.slice a2 n2 c2) ks j j (.slice ka (sms (ks.take j)).length kc) (.slice ra (cdk (ks.take j)).length rc) (wr.alloc (.cells #[.int .i64 T.kind, .slice p1 p2 p3, .slice p4 p5 p6, .slice p7 p8 p9] 32))) := TI_below HI.out bA
      have c3A := HIA.out.c3
      have hsA : (wr.alloc (.cells #[.int .i64 T.kind, .slice p1 p2 p3, .slice p4 p5 p6, .slice p7 p8 p9] 32)).heap.size = wr.heap.size + 1 := by simp
      have LWA : Hid (Below w.heap.size w (wr.alloc (.cells #[.int .i64 T.kind, .slice p1 p2 p3, .slice p4 p5 p6, .slice p7 p8 p9] 32))) := LW.out.trans (bA.mono LW.out.size)
      by_cases hk0 : T.kind = 0
      · rw [if_pos hk0] at HS1 HC1
        have bB : Below (wr.alloc (.cells #[.int .i64 T.kind, .slice p1 p2 p3, .slice p4 p5 p6, .slice p7 p8 p9] 32)).heap.size (wr.alloc (.cells #[.int .i64 T.kind, .slice p1 p2 p3, .slice p4 p5 p6, .slice p7 p8 p9] 32)) ((wr.alloc (.cells #[.int .i64 T.kind, .slice p1 p2 p3, .slice p4 p5 p6, .slice p7 p8 p9] 32)).alloc (.cells #[.slice none 0 0] 22)) := (Below.refl _ _).alloc (Nat.le_refl _) _
        have HB := heap_alloc_new (wr.alloc (.cells #[.int .i64 T.kind, .slice p1 p2 p3, .slice p4 p5 p6, .slice p7 p8 p9] 32)) (.cells #[.slice none 0 0] 22)
        rw [hsA] at HB
        have vB : Vl [.slice none 0 0] (.slice (some ⟨wr.heap.size + 1, 0, none⟩) 1 1) ((wr.alloc (.cells #[.int .i64 T.kind, .slice p1 p2 p3, .slice p4 p5 p6, .slice p7 p8 p9] 32)).alloc (.cells #[.slice none 0 0] 22)) := ⟨_, 1, rfl, fun _ => ⟨_, 0, rfl, by simp, fun i hi => by
          have : i = 0 := by simp at hi; omega
          subst this
          simp only [World.cell?, HB]
          rfl⟩⟩
        obtain ⟨a7, m7, c7, w7, hap, ⟨ck7, fz7⟩, hI7, _, _⟩ := TI_K 23 (TI_below HIA.out bB) vB (Ty_nil _ _) HS1.out hz.out
        have HI7 : Hid (TI w1 (h + 1) 2 (.slice a1 n1 c1) (.slice a2 n2 c2) ks (j + 1) (j + 1) (.slice a7 m7 c7) (.slice ra (cdk (ks.take j)).length rc) (w7.setCell ⟨h + 1, 3, none⟩ (.slice a7 m7 c7))) := ⟨hI7.g, hI7.x, hI7.c0, hI7.c1, hI7.c2, hI7.c3, hI7.b, hI7.K, by rw [HC1.out, List.append_nil]; exact hI7.R, hI7.d⟩
        clear hI7 bB HB vB HIA bA hsA LWA LW KT KS HI HS1 HC1 hT
        have e0 : (T.kind == 0) = true := by rw [hk0]; rfl
        clear hk0
        generalize (cdk (ks.take j)).length = rl at *
        generalize (sms (ks.take j)).length = kl at *
        go_wp2_with (at_builtin; refine wpList_apw rfl rfl rfl rfl hap ?_)
        have hw := hw.out
        go_roundw
        case rel => exact ⟨j + 1, HJ1.out, Nb.step_v j _ hw, ⟨_, HI7.out⟩⟩
        case measure => exact Nb.msr j n3 HJ1.out _ hw
      · rw [if_neg hk0] at HS1 HC1
        have e0 : (T.kind == 0) = false := beq_eq_false_iff_ne.2 hk0
        have HAN := heap_alloc_new wr (.cells #[.int .i64 T.kind, .slice p1 p2 p3, .slice p4 p5 p6, .slice p7 p8 p9] 32)
        have HKB : Hid (∀ g, (Value.slice ka (sms (ks.take j)).length kc).ownBlock = some g → g < wr.heap.size) := fun g hg => (CO_lt HI.out.K g hg).2
        have HRB : Hid (∀ g, (Value.slice ra (cdk (ks.take j)).length rc).ownBlock = some g → g < wr.heap.size) := fun g hg => (CO_lt HI.out.R g hg).2
        clear HI LW
        go_wp2_with fail
        refine Calls.mono (KT.out _ LWA.out) ?_
        rintro e w3 ⟨v3, rfl, co3, b3⟩
        obtain ⟨r, er⟩ := cds_cons T
        have CO3 : Hid (CO (wr.alloc (.cells #[.int .i64 T.kind, .slice p1 p2 p3, .slice p4 p5 p6, .slice p7 p8 p9] 32)).heap.size (fun _ => True) (cds T) v3 w3) := co3
        obtain ⟨hs, hl, ⟨ao, cap, ev, hL⟩, ht⟩ := CO_heads co3
        have hlen : 0 < (cds T).length := by rw [er]; simp
        obtain ⟨g2, o2, rfl, hg2, hc2⟩ := hL (by omega)
        have t0 := ht 0 hlen
        rw [show (cds T).getD 0 [] = cd T by rw [er]; rfl] at t0
        have s0 := Ty_sl t0
        obtain ⟨x0, y0, e5⟩ := Sl_fm s0
        have cell0 := hc2 0 (by omega)
        have e6 : hs[0]? = some (.slice x0 (cd T).length y0) := by
          rw [← e5, List.getD_eq_getElem?_getD, List.getElem?_eq_getElem (by omega)]
          rfl
        rw [e6, Nat.add_zero] at cell0
        rw [e5] at s0
        rw [hl] at ev
        subst ev
        have hl0 : (0 : Int) < ((cds T).length : Int) := by omega
        have HI3 : Hid (TI w1 (h + 1) 2 (.slice a1 n1 c1) (.slice a2 n2 c2) ks j j (.slice ka (sms (ks.take j)).length kc) (.slice ra (cdk (ks.take j)).length rc) w3) := TI_below HIA.out b3
        have KS2 : Hid _ := KS.out x0 y0 w3 s0
        have HL3 : Hid (Below w.heap.size w w3) := LWA.out.trans (b3.mono LWA.out.size)
        have HW3 : Hid (wr.heap.size < (wr.alloc (.cells #[.int .i64 T.kind, .slice p1 p2 p3, .slice p4 p5 p6, .slice p7 p8 p9] 32)).heap.size ∧ (wr.alloc (.cells #[.int .i64 T.kind, .slice p1 p2 p3, .slice p4 p5 p6, .slice p7 p8 p9] 32)).heap.size ≤ w3.heap.size ∧ w1.heap.size ≤ (wr.alloc (.cells #[.int .i64 T.kind, .slice p1 p2 p3, .slice p4 p5 p6, .slice p7 p8 p9] 32)).heap.size) := ⟨by omega, b3.size, HIA.out.b.size⟩
        clear co3 hL ht t0 s0 hc2 e5 e6 b3 HIA KS KT LWA c3A bA hl hg2
        generalize (cdk (ks.take j)).length = rl at *
        generalize (sms (ks.take j)).length = kl at *
        generalize (cds T).length = dl at *
        go_wp2_with fail
        refine Calls.mono KS2.out ?_
        rintro e w4 ⟨rfl, b4⟩
        have bZ : Below w4.heap.size w4 (w4.alloc (.cells Z32 36)) := (Below.refl _ _).alloc (Nat.le_refl _) _
        have thZ := there_new w4 36
        have hz4 : w4.heap.size < (w4.alloc (.cells Z32 36)).heap.size := by simp
        have B4 : Hid (Below w3.heap.size w3 w4) := b4
        have BZ : Hid (Below w4.heap.size w4 (w4.alloc (.cells Z32 36)) ∧ w4.heap.size < (w4.alloc (.cells Z32 36)).heap.size) := ⟨bZ, hz4⟩
        clear KS2 b4 bZ hz4
        unfold Z32 at thZ BZ
        go_wp2_with (refine wpList_stH rfl rfl rfl rfl thZ ?_)
        intro w5 g5 cz
        have b45 : Below w4.heap.size w4 w5 := BZ.out.1.trans ⟨g5.os, g5.tape, g5.output, g5.size, fun i hi => g5.block i (by have := BZ.out.2; omega) (fun e => by injection e with e; omega)⟩
        have hg8 : w4.heap.size < w5.heap.size := Nat.lt_of_lt_of_le BZ.out.2 g5.size
        have b35 := B4.out.trans (b45.mono B4.out.size)
        have HI5 : Hid _ := TI_below HI3.out b35
        have CO5 : Hid _ := CO_below CO3.out b35
        have HL5 : Hid (Below w.heap.size w w5) := HL3.out.trans (b35.mono HL3.out.size)
        have TY5 : Hid (Ty (· = w4.heap.size) (sml (cd T)) (.slice (some ⟨w4.heap.size, 0, none⟩) 32 32) w5) := sml_sl hg8 cz
        have HSZ4 : Hid (w3.heap.size ≤ w4.heap.size) := B4.out.size
        have C35 : Hid (w5.cell? ⟨h + 1, 3, none⟩ = some (.slice ka kl kc) ∧ h + 1 < w5.heap.size) := ⟨HI5.out.c3, HI5.out.x.hi⟩
        clear b35 b45 hg8 g5 cz BZ B4 HI3 CO3 HL3 thZ
        obtain ⟨g8, hg8⟩ : ∃ g8, g8 = w4.heap.size := ⟨_, rfl⟩
        rw [← hg8] at TY5 HSZ4 ⊢
        clear hg8
        have hL : RG.Lasts (fun wx => Below w5.heap.size w5 wx) (fun _ v wx => ∃ g6, v = .slice (some ⟨g6, 0, none⟩) 1 1 ∧ g6 < wx.heap.size ∧ wx.cell? ⟨g6, 0, none⟩ = some (.slice (some ⟨g8, 0, none⟩) 32 32)) := ⟨fun _ _ h hb => h.trans (hb.mono h.size), fun _ _ _ _ h hb => by
          obtain ⟨g6, e1, e2, e3⟩ := h
          exact ⟨g6, e1, Nat.lt_of_lt_of_le e2 hb.size, (hb.cell (p := ⟨g6, 0, none⟩) e2).trans e3⟩⟩
        go_upto_region 16 with fail
        refine RG.wp_region_gen (fun wx => Below w5.heap.size w5 wx) (fun _ v wx => ∃ g6, v = .slice (some ⟨g6, 0, none⟩) 1 1 ∧ g6 < wx.heap.size ∧ wx.cell? ⟨g6, 0, none⟩ = some (.slice (some ⟨g8, 0, none⟩) 32 32)) (fun _ _ => True) [0, 0, 0, 1, 2, 2, 2] (by kernel_rfl) (by kernel_rfl) ((Below.refl _ _).drew) ?_
        dsimp only [List.toList_toArray]
        refine RG.go1 (v := ?_) (a' := ?_) hL (by decide) rfl ?_ ?_ ?_
        rotate_left 2
        · intro K wx hS hK
          go_simp
          exact hK _ (Below.refl _ _)
        · simp only [Act.put, List.setIfInBounds_toArray, List.set_cons_succ, List.set_cons_zero]
          rfl
        refine RG.go1 (v := ?_) (a' := ?_) hL (by decide) rfl ?_ ?_ ?_
        rotate_left 2
        · intro K wx hS hK
          have z0 := (hS.cell (p := ⟨h + 1, 3, none⟩) C35.out.2).trans C35.out.1
          go_simp
          exact hK _ (Below.refl _ _)
        · simp only [Act.put, List.setIfInBounds_toArray, List.set_cons_succ, List.set_cons_zero]
          rfl
        refine RG.go1 (v := ?_) (a' := ?_) hL (by decide) rfl ?_ ?_ ?_
        rotate_left 2
        · intro K wx hS hK
          go_simp
          exact hK _ (Below.refl _ _)
        · simp only [Act.put, List.setIfInBounds_toArray, List.set_cons_succ, List.set_cons_zero]
          rfl
        refine RG.goN hL rfl ?_ ?_
        · intro K wx hS hK
          have hn := heap_alloc_new wx (.cells #[.slice (some ⟨g8, 0, none⟩) 32 32] 22)
          go_simp
          exact hK _ _ ((Below.refl _ _).alloc (Nat.le_refl _) _) ⟨_, rfl, by simp, by simp only [World.cell?, hn]; rfl⟩ (fun _ _ _ => ⟨trivial, trivial⟩)
        refine RG.goT ?_
        refine RG.goT ?_
        refine RG.goT ?_
        refine RG.go_end ?_
        intro U w9 m9 y9 x9
        simp +decide (maxSteps := 1000000) only [RG.tl, RG.putN, if_true, if_false, Act.put, List.setIfInBounds_toArray, List.set_cons_succ, List.set_cons_zero, Nat.reduceAdd]
        obtain ⟨g6, e6, hg6, c6⟩ := y9 3 rfl
        have TI9 := TI_below HI5.out m9
        have v9 : Vl [.slice (some ⟨g8, 0, none⟩) 32 32] (.slice (some ⟨g6, 0, none⟩) 1 1) w9 := ⟨_, 1, rfl, fun _ => ⟨g6, 0, rfl, hg6, fun i hi => by
          have : i = 0 := by simp at hi; omega
          subst this
          exact c6⟩⟩
        have hG := TI9.g
        have t9 : Ty (fun i => w1.heap.size ≤ i ∧ (Value.slice ka kl kc).ownBlock ≠ some i ∧ (Value.slice ra rl rc).ownBlock ≠ some i) (sml (cd T)) (.slice (some ⟨g8, 0, none⟩) 32 32) w9 := Ty_mono (Ty_gb (r := none) TY5.out (gb_below m9) (fun _ _ => nofun)) (fun i hi _ => by
          subst hi
          have h1 := HW3.out
          have h2 := HSZ4.out
          exact ⟨by omega, fun e => by have := HKB.out _ e; omega, fun e => by have := HRB.out _ e; omega⟩)
        obtain ⟨a7, m7, c7, w7, hap, ⟨ck7, fz7⟩, hI7, hgr7, hw7⟩ := TI_K 23 TI9 v9 t9 HS1.out hz.out
        have co9 := CO_below CO5.out m9
        have CO8 : Hid (CO (wr.alloc (.cells #[.int .i64 T.kind, .slice p1 p2 p3, .slice p4 p5 p6, .slice p7 p8 p9] 32)).heap.size (fun i => (Value.slice a7 m7 c7).ownBlock ≠ some i ∧ (Value.slice ra rl rc).ownBlock ≠ some i) (cds T) (.slice (some ⟨g2, o2, none⟩) dl cap) (w7.setCell ⟨h + 1, 3, none⟩ (.slice a7 m7 c7))) := by
          have h1 := HW3.out
          have hl3 := CO_lt co9
          have k1 : CO (wr.alloc (.cells #[.int .i64 T.kind, .slice p1 p2 p3, .slice p4 p5 p6, .slice p7 p8 p9] 32)).heap.size (fun i => (Value.slice a7 m7 c7).ownBlock ≠ some i ∧ (Value.slice ra rl rc).ownBlock ≠ some i) (cds T) (.slice (some ⟨g2, o2, none⟩) dl cap) w9 := CO_mono co9 (fun i hi hi2 _ => ⟨fun e => by
            rcases hw7 i e with e2 | e2
            · have := HKB.out _ e2; omega
            · omega, fun e => by have := HRB.out _ e; omega⟩)
          have k2 := CO_gb k1 hgr7 (fun i hi e => by have := (hl3 i hi).1; have := HKB.out _ e.symm; omega) (fun i hi _ e => by have := HKB.out _ e.symm; omega)
          exact CO_gb k2 (gb_set _ _ _ _) (fun i hi e => by injection e with e; have := (hl3 i hi).1; omega) (fun i hi _ e => by injection e with e; omega)
        have HCL : Hid ((cdk (ks.take (j + 1))).length ≤ 4194300) := by
          have := cdk_take ks (j + 1)
          have := hzz.out
          show _ ≤ _
          omega
        obtain ⟨a8, m8, c8, w8, hap2, hI8⟩ := TI_R 23 hI7 CO8.out HW3.out.2.2 HC1.out HCL.out
        have HI8 : Hid (TI w1 (h + 1) 2 (.slice a1 n1 c1) (.slice a2 n2 c2) ks (j + 1) (j + 1) (.slice a7 m7 c7) (.slice a8 m8 c8) w8) := hI8
        rw [e6]
        clear hI8 hI7 CO8 co9 t9 v9 TI9 c6 hg6 e6 y9 x9 m9 hL C35 TY5 HI5 CO5 HL5 HSZ4 HW3 HKB HRB hgr7 hw7 HS1 HC1 HCL hT hG
        go_upto_region 17 with (at_builtin; refine wpList_apw rfl rfl rfl rfl hap ?_)
        generalize w7.setCell ⟨h + 1, 3, none⟩ (.slice a7 m7 c7) = w7' at *
        clear hap ck7 fz7
        go_wp2_with (at_builtin; refine wpList_apw rfl rfl rfl rfl hap2 ?_)
        have hw := hw.out
        go_roundw
        case rel => exact ⟨j + 1, HJ1.out, Nb.step_v j _ hw, ⟨_, HI8.out⟩⟩
        case measure => exact Nb.msr j n3 HJ1.out _ hw
    · have hjn : j = n3 := by omega
      have e1 : ks.take j = ks := List.take_of_length_le (by have := hn.out; omega)
      have hI := HI.out
      rw [e1] at hI
      have hK := hI.K
      have hR := hI.R
      rw [e1] at hK hR
      have LW : Hid (Below w.heap.size w wr) := by
        have hb := hI.b
        have hl := L1.out
        exact ⟨hb.os.trans hl.os, hb.tape.trans hl.tape, hb.output.trans hl.output, Nat.le_trans hl.size hb.size, fun i hi => (hb.block i (Nat.lt_of_lt_of_le hi hl.size) (fun e => by injection e with e; have := EH.out; omega)).trans (hl.block i hi)⟩
      have S1 : Hid (Sh (2, p, u, sms ks) (.int .i64 2, .slice a1 n1 c1, .slice a2 n2 c2, .slice ka (sms ks).length kc) wr) := ⟨rfl, Sl_below hp.out LW.out, Sl_below hu.out LW.out, CO_ls hK⟩
      have R1 : Hid (CO w.heap.size (fun i => (Value.slice ka (sms ks).length kc).ownBlock ≠ some i) (cdk ks) (.slice ra (cdk ks).length rc) wr) := CO_base hR L1.out.size
      have c0 := hI.c0
      have c1' := hI.c1
      have c2' := hI.c2
      have c3' := hI.c3
      rw [e1]
      clear hI HI hK hR e1 L1 j1 hj hk
      subst hjn
      go_wp2_with fail
      refine (KH.out _ _ S1.out).mono ?_
      rintro e w5 ⟨v, rfl, sc, bc, nc⟩
      obtain ⟨ca, cc, rfl⟩ := Sl_fm sc
      have l5 : Below w.heap.size w w5 := (LW.out).trans (bc.mono (LW.out).size)
      obtain ⟨v', w7, hap, co, b7⟩ := CO_cons 23 l5.size (Ty_mono (nw_ty sc nc) (fun k hk _ => Nat.le_trans (LW.out).size hk)) (CO_below R1.out bc) (by have := hzz.out; omega)
      obtain ⟨va, vc, rfl, _⟩ := CO_form co
      have HR : Hid _ := And.intro co (l5.trans (b7.mono l5.size))
      clear sc bc nc l5 co b7 KH
      generalize C.length = cl at *
      go_wp2_with (at_builtin; refine wpList_apw rfl rfl rfl rfl hap ?_)
      go_ret
      exact ⟨_, rfl, HR.out⟩
end Rt
end Go.Proofs.YtefgamhnikeekaaDoor
namespace Go.Proofs.YtefgamhnikeekaaDoor
namespace Rt
open Nb Sp Pk Rs Go.RowKit
theorem CO_set {B : Nat} {X : Nat → Prop} {l : List (List UInt8)} {g m cap : Nat} {w : World} (h : CO B X l (.slice (some ⟨g, 0, none⟩) m cap) w) (i : Nat) (hi : i < l.length) {c : List UInt8} {y : Value} (hc : Ty (fun k => B ≤ k ∧ (Value.slice (some ⟨g, 0, none⟩) m cap).ownBlock ≠ some k ∧ X k) c y w) :
    (w.cell? ⟨g, i, none⟩).isSome = true ∧ w.frozen? ⟨g, i, none⟩ = false ∧ CO B X (l.set i c) (.slice (some ⟨g, 0, none⟩) m cap) (w.setCell ⟨g, i, none⟩ y) := by
  obtain ⟨hs, hl, ho, ht⟩ := h
  obtain ⟨a', c', e0, _⟩ := CO_form (⟨hs, hl, ho, ht⟩ : CO B X l (.slice (some ⟨g, 0, none⟩) m cap) w)
  have em : m = l.length := by injection e0
  subst em
  have hgb : w.grownBy (w.setCell ⟨g, i, none⟩ y) (some g) := gb_set w g i y
  have hne : ∀ k, (Value.slice (some ⟨g, 0, none⟩) l.length cap).ownBlock ≠ some k → some k ≠ some g := fun k hk e => hk (by rw [e]; rfl)
  have hst := (World.ownsRow.stored ho i y).1
  refine ⟨?_, World.ownsRow.frozenAt ho _, hs.set i y, by rw [List.length_set, List.length_set, hl], by rw [List.length_set]; exact hst, fun j hj => ?_⟩
  · rw [World.ownsRow.cellAt ho _ (by omega), List.getElem?_eq_getElem (by omega)]
    rfl
  · rw [List.length_set] at hj
    by_cases e : j = i
    · subst e
      have e1 : (l.set j c).getD j [] = c := by simp [List.getD_eq_getElem?_getD, List.getElem?_set_self hj]
      have e2 : (hs.set j y).getD j undef = y := by simp [List.getD_eq_getElem?_getD, List.getElem?_set_self (hl ▸ hj)]
      rw [e1, e2]
      exact Ty_gb hc hgb (fun k hk => hne k hk.2.1)
    · have e1 : (l.set i c).getD j [] = l.getD j [] := by simp [List.getD_eq_getElem?_getD, List.getElem?_set_ne (fun h => e h.symm)]
      have e2 : (hs.set i y).getD j undef = hs.getD j undef := by simp [List.getD_eq_getElem?_getD, List.getElem?_set_ne (fun h => e h.symm)]
      rw [e1, e2]
      exact Ty_gb (ht j hj) hgb (fun k hk => hne k hk.2.1)
end Rt
end Go.Proofs.YtefgamhnikeekaaDoor
namespace Go.Proofs.YtefgamhnikeekaaDoor
namespace Rt
open Nb Sp Pk Rs Go.RowKit
theorem Ty_fr2 {S : Nat → Prop} {b : List UInt8} {v : Value} {w w' : World} {g : Nat} {k : Option Nat} (h : Ty S b v w) (f : Fr2 w w' g k) (hr : ∀ i, S i → i ≠ g ∧ some i ≠ k) : Ty S b v w' := by
  obtain ⟨ao, cap, e, hc, h2⟩ := h
  refine ⟨ao, cap, e, hc, fun h0 => ?_⟩
  obtain ⟨i, off, e2, hS, hi, hc2⟩ := h2 h0
  have hb := f.block i hi (hr i hS).1 (hr i hS).2
  exact ⟨i, off, e2, hS, Nat.lt_of_lt_of_le hi f.size, fun j hj => (World.cell?_of_block (a := ⟨i, off + j, none⟩) hb).trans (hc2 j hj)⟩
theorem own_fr2 {B n s : Nat} {e : TypeId} {v : Value} {xs : List Value} {w w' : World} {g : Nat} {k : Option Nat} (h : w.ownsRow B e s v n xs) (f : Fr2 w w' g k) (hv : ∀ i, v.ownBlock = some i → i ≠ g ∧ some i ≠ k) : w'.ownsRow B e s v n xs := by
  obtain ⟨h1, h2⟩ := h
  refine ⟨h1, ?_⟩
  rcases h2 with h2 | ⟨i, cap, cur, e1, h3, h4, h5⟩
  · exact .inl h2
  · have hi := Pk.lt_of_heap h4
    have := hv i (by rw [e1]; rfl)
    exact .inr ⟨i, cap, cur, e1, h3, (f.block i hi this.1 this.2).trans h4, h5⟩
theorem CO_fr2 {B : Nat} {X : Nat → Prop} {l : List (List UInt8)} {v : Value} {w w' : World} {g : Nat} {k : Option Nat} (h : CO B X l v w) (f : Fr2 w w' g k) (hv : ∀ i, v.ownBlock = some i → i ≠ g ∧ some i ≠ k) (hX : ∀ i, B ≤ i → X i → i ≠ g ∧ some i ≠ k) : CO B X l v w' := by
  obtain ⟨hs, hl, ho, ht⟩ := h
  exact ⟨hs, hl, own_fr2 ho f hv, fun j hj => Ty_fr2 (ht j hj) f (fun i hi => hX i hi.1 hi.2.2)⟩
theorem BS_fr2 {G : Nat} {w w' : World} {g : Nat} {k : Option Nat} (h : BS G w) (f : Fr2 w w' g k) (h1 : G ≠ g) (h2 : some G ≠ k) : BS G w' := by
  have hb := f.block G h.hi h1 h2
  exact ⟨Nat.lt_of_lt_of_le h.hi f.size, fun o ho => by rw [World.cell?_of_block (a := ⟨G, o, none⟩) hb]; exact h.c o ho, fun o => by rw [World.frozen?_of_block (a := ⟨G, o, none⟩) hb]; exact h.f o, fun o x => by rw [World.cell?_of_block (a := ⟨G, o, none⟩) hb]; exact h.n o x⟩
theorem fr2_refl (w : World) (g : Nat) (k : Option Nat) : Fr2 w w g k := ⟨rfl, rfl, rfl, Nat.le_refl _, fun _ _ _ _ => rfl⟩
theorem fr2_below {w w1 w2 : World} {g : Nat} {k : Option Nat} (f : Fr2 w w1 g k) (hb : Below w1.heap.size w1 w2) : Fr2 w w2 g k :=
  ⟨hb.os.trans f.os, hb.tape.trans f.tape, hb.output.trans f.output, Nat.le_trans f.size hb.size, fun j hj h1 h2 => (hb.block j (Nat.lt_of_lt_of_le hj f.size)).trans (f.block j hj h1 h2)⟩
theorem fr2_gb {w w1 w2 : World} {g : Nat} {k r : Option Nat} (f : Fr2 w w1 g k) (hb : w1.grownBy w2 r) (hr : ∀ i, r = some i → i = g ∨ k = some i ∨ w.heap.size ≤ i) : Fr2 w w2 g k :=
  ⟨hb.os.trans f.os, hb.tape.trans f.tape, hb.output.trans f.output, Nat.le_trans f.size hb.size, fun j hj h1 h2 => (hb.block j (Nat.lt_of_lt_of_le hj f.size) (fun e => by
    rcases hr j e.symm with h | h | h
    · exact h1 h
    · exact h2 h.symm
    · omega)).trans (f.block j hj h1 h2)⟩
theorem fr2_trans {w w1 w2 : World} {g : Nat} {k r : Option Nat} (f : Fr2 w w1 g k) (f2 : Fr2 w1 w2 g r) (hr : ∀ i, r = some i → k = some i ∨ w.heap.size ≤ i) : Fr2 w w2 g k :=
  ⟨f2.os.trans f.os, f2.tape.trans f.tape, f2.output.trans f.output, Nat.le_trans f.size f2.size, fun j hj h1 h2 => (f2.block j (Nat.lt_of_lt_of_le hj f.size) h1 (fun e => by
    rcases hr j e.symm with h | h
    · exact h2 h.symm
    · omega)).trans (f.block j hj h1 h2)⟩
structure WS (B gw : Nat) (X : Nat → Prop) (l : List (List UInt8)) (cv : Value) (w : World) : Prop where
  hi : gw < w.heap.size
  c : w.cell? ⟨gw, 0, none⟩ = some cv
  f : ∀ o, w.frozen? ⟨gw, o, none⟩ = false
  co : CO B X l cv w
  ne : cv.ownBlock ≠ some gw
theorem WS_below {B gw : Nat} {X : Nat → Prop} {l : List (List UInt8)} {cv : Value} {w w' : World} (h : WS B gw X l cv w) (hb : Below w.heap.size w w') : WS B gw X l cv w' :=
  ⟨Nat.lt_of_lt_of_le h.hi hb.size, (hb.cell (p := ⟨gw, 0, none⟩) h.hi).trans h.c, fun o => (hb.frozen (p := ⟨gw, o, none⟩) h.hi).trans (h.f o), CO_below h.co hb, h.ne⟩
theorem WS_mono {B gw : Nat} {X Y : Nat → Prop} {l : List (List UInt8)} {cv : Value} {w : World} (h : WS B gw X l cv w) (hY : ∀ k, B ≤ k → k < w.heap.size → X k → Y k) : WS B gw Y l cv w := ⟨h.hi, h.c, h.f, CO_mono h.co hY, h.ne⟩
theorem WS_gb {B gw : Nat} {X : Nat → Prop} {l : List (List UInt8)} {cv : Value} {w w' : World} {r : Option Nat} (h : WS B gw X l cv w) (hg : w.grownBy w' r) (h1 : some gw ≠ r) (hv : ∀ k, cv.ownBlock = some k → some k ≠ r) (hX : ∀ k, B ≤ k → X k → some k ≠ r) : WS B gw X l cv w' := by
  have hb := hg.block gw h.hi h1
  exact ⟨Nat.lt_of_lt_of_le h.hi hg.size, (World.cell?_of_block (a := ⟨gw, 0, none⟩) hb).trans h.c, fun o => (World.frozen?_of_block (a := ⟨gw, o, none⟩) hb).trans (h.f o), CO_gb h.co hg hv hX, h.ne⟩
def NR (B gw : Nat) (X : Nat → Prop) (l C : List (List UInt8)) (T : List UInt8) (cv : Value) (w : World) (e : Ending) (w' : World) : Prop :=
  ∃ sv cv', e = .returned sv ∧ WS B gw X (l ++ C) cv' w' ∧ Ty (fun k => w.heap.size ≤ k ∧ cv'.ownBlock ≠ some k) T sv w' ∧ Fr2 w w' gw cv.ownBlock ∧ (∀ g, cv'.ownBlock = some g → cv.ownBlock = some g ∨ w.heap.size ≤ g)
structure NI (ws : World) (r0 : Option Nat) (B gw G : Nat) (X : Nat → Prop) (k : Int) (pv vv : Value) (ks : List Nd) (l : List (List UInt8)) (jk jr : Nat) (kv cv : Value) (wr : World) : Prop where
  x : BS G wr
  gg : G ≠ gw
  gs : ws.heap.size ≤ G
  c0 : wr.cell? ⟨G, 0, none⟩ = some (.int .i64 k)
  c1 : wr.cell? ⟨G, 1, none⟩ = some pv
  c2 : wr.cell? ⟨G, 2, none⟩ = some vv
  c3 : wr.cell? ⟨G, 3, none⟩ = some kv
  K : CO ws.heap.size (fun i => cv.ownBlock ≠ some i ∧ i ≠ gw ∧ i ≠ G) (sms (ks.take jk)) kv wr
  W : WS B gw (fun i => X i ∧ i ≠ G ∧ kv.ownBlock ≠ some i) (l ++ cdk (ks.take jr)) cv wr
  d : ∀ g, kv.ownBlock = some g → cv.ownBlock ≠ some g ∧ g ≠ gw ∧ g ≠ G
  dG : cv.ownBlock ≠ some G
  F : Fr2 ws wr gw r0
  o : ∀ g, cv.ownBlock = some g → r0 = some g ∨ ws.heap.size ≤ g
variable {ws : World} {r0 : Option Nat} {B gw G : Nat} {X : Nat → Prop} {k : Int} {pv vv : Value} {ks : List Nd} {l : List (List UInt8)} {jk jr : Nat} {kv cv : Value} {wr w6 : World}
theorem NI_below (H : NI ws r0 B gw G X k pv vv ks l jk jr kv cv wr) (hb : Below wr.heap.size wr w6) : NI ws r0 B gw G X k pv vv ks l jk jr kv cv w6 :=
  ⟨BS_gb (r := none) H.x (gb_below hb) nofun, H.gg, H.gs, (hb.cell (p := ⟨G, 0, none⟩) H.x.hi).trans H.c0, (hb.cell (p := ⟨G, 1, none⟩) H.x.hi).trans H.c1, (hb.cell (p := ⟨G, 2, none⟩) H.x.hi).trans H.c2, (hb.cell (p := ⟨G, 3, none⟩) H.x.hi).trans H.c3,
    CO_below H.K hb, WS_below H.W hb, H.d, H.dG, fr2_below H.F hb, H.o⟩
theorem NI_R {C : List (List UInt8)} {cv' : Value} (H : NI ws r0 B gw G X k pv vv ks l jk jr kv cv wr) (hW : WS B gw (fun i => X i ∧ i ≠ G ∧ kv.ownBlock ≠ some i) ((l ++ cdk (ks.take jr)) ++ C) cv' w6) (hF : Fr2 wr w6 gw cv.ownBlock) (ho : ∀ g, cv'.ownBlock = some g → cv.ownBlock = some g ∨ wr.heap.size ≤ g) (hs : cdk (ks.take (jr + 1)) = cdk (ks.take jr) ++ C) :
    NI ws r0 B gw G X k pv vv ks l jk (jr + 1) kv cv' w6 := by
  have hG := hF.block G H.x.hi H.gg (fun e => H.dG e.symm)
  have cell : ∀ o u, wr.cell? ⟨G, o, none⟩ = some u → w6.cell? ⟨G, o, none⟩ = some u := fun o u c => (World.cell?_of_block (a := ⟨G, o, none⟩) hG).trans c
  have hkl := CO_lt H.K
  refine ⟨BS_fr2 H.x hF H.gg (fun e => H.dG e.symm), H.gg, H.gs, cell 0 _ H.c0, cell 1 _ H.c1, cell 2 _ H.c2, cell 3 _ H.c3, ?_, by rw [hs, ← List.append_assoc]; exact hW, fun g hg => ⟨fun e => ?_, (H.d g hg).2⟩, fun e => ?_, fr2_trans H.F hF H.o, fun g hg => ?_⟩
  · refine CO_mono (CO_fr2 (CO_mono (Y := fun i => (cv'.ownBlock ≠ some i ∧ i ≠ gw ∧ i ≠ G) ∧ cv.ownBlock ≠ some i) H.K (fun i _ hi hx => ⟨⟨fun e => ?_, hx.2⟩, hx.1⟩)) hF (fun i hi => ⟨(H.d i hi).2.1, fun e => (H.d i hi).1 e.symm⟩) (fun i _ hx => ⟨hx.1.2.1, fun e => hx.2 e.symm⟩)) (fun i _ _ hx => hx.1)
    rcases ho i e with h | h
    · exact hx.1 h
    · omega
  · rcases ho g e with h | h
    · exact (H.d g hg).1 h
    · have := (hkl g hg).2; omega
  · rcases ho G e with h | h
    · exact H.dG h
    · have := H.x.hi; omega
  · rcases ho g hg with h | h
    · exact H.o g h
    · exact .inr (Nat.le_trans H.F.size h)
theorem NI_K (ty : TypeId) {T : List UInt8} {y vb : Value} (H : NI ws r0 B gw G X k pv vv ks l jk jr kv cv wr) (hv : Vl [y] vb wr) (ht : Ty (fun i => ws.heap.size ≤ i ∧ kv.ownBlock ≠ some i ∧ cv.ownBlock ≠ some i ∧ i ≠ gw ∧ i ≠ G) T y wr) (hs : sms (ks.take (jk + 1)) = sms (ks.take jk) ++ [T]) (hn : ks.length ≤ 1048576) :
    ∃ a m c w7, (Builtin.append_ #[23, 23] ty #[kv, vb]).run Tryd.prog wr = .ok (.slice a m c) w7 ∧ (w7.cell? ⟨G, 3, none⟩ = some kv ∧ w7.frozen? ⟨G, 3, none⟩ = false) ∧ NI ws r0 B gw G X k pv vv ks l (jk + 1) jr (.slice a m c) cv (w7.setCell ⟨G, 3, none⟩ (.slice a m c)) := by
  have hsz := H.F.size
  have hlen : (sms (ks.take jk)).length ≤ 1048576 := by rw [sms_len, List.length_take]; omega
  obtain ⟨v', w7, hap, co, hgr, hw⟩ := CO_app (m := [T]) ty H.K hv rfl (fun j hj => by
    have : j = 0 := by simp at hj; omega
    subst this
    exact ht) hsz (by simp only [List.length_singleton]; omega)
  obtain ⟨a, c, rfl, _⟩ := CO_form co
  have hkl := CO_lt H.K
  have hGk : some G ≠ kv.ownBlock := fun e => (H.d G e.symm).2.2 rfl
  have x7 := BS_gb H.x hgr hGk
  have cell7 : ∀ o u, wr.cell? ⟨G, o, none⟩ = some u → w7.cell? ⟨G, o, none⟩ = some u := fun o u c => (World.cell?_of_block (a := ⟨G, o, none⟩) (hgr.block G H.x.hi hGk)).trans c
  have hcl := CO_lt H.W.co
  have W7 : WS B gw (fun i => X i ∧ i ≠ G ∧ (Value.slice a (sms (ks.take jk) ++ [T]).length c).ownBlock ≠ some i) (l ++ cdk (ks.take jr)) cv w7 := by
    have r1 : WS B gw (fun i => kv.ownBlock ≠ some i ∧ X i ∧ i ≠ G ∧ (Value.slice a (sms (ks.take jk) ++ [T]).length c).ownBlock ≠ some i) (l ++ cdk (ks.take jr)) cv wr := WS_mono H.W (fun i _ h2 h3 => ⟨h3.2.2, h3.1, h3.2.1, fun e => by
      rcases hw i e with e2 | e2
      · exact h3.2.2 e2
      · omega⟩)
    exact WS_mono (WS_gb r1 hgr (fun e => (H.d gw e.symm).2.1 rfl) (fun i hi e => (H.d i e.symm).1 hi) (fun i _ hi e => hi.1 e.symm)) (fun i _ _ h => h.2)
  have d7 : ∀ g, (Value.slice a (sms (ks.take jk) ++ [T]).length c).ownBlock = some g → cv.ownBlock ≠ some g ∧ g ≠ gw ∧ g ≠ G := fun g hg => by
    rcases hw g hg with e2 | e2
    · exact H.d g e2
    · refine ⟨fun e => ?_, fun e => ?_, fun e => ?_⟩
      · have := (hcl g e).2; omega
      · have := H.W.hi; omega
      · have := H.x.hi; omega
  have hset := gb_set w7 G 3 (.slice a (sms (ks.take jk) ++ [T]).length c)
  refine ⟨a, _, c, w7, hap, ⟨cell7 3 _ H.c3, x7.f 3⟩, ⟨BS_set1 x7 (by decide) nofun, H.gg, H.gs, ?_, ?_, ?_, ?_, ?_, ?_, d7, H.dG, ?_, H.o⟩⟩
  · rw [cell_set_ne _ _ _ _ _ (by decide)]; exact cell7 0 _ H.c0
  · rw [cell_set_ne _ _ _ _ _ (by decide)]; exact cell7 1 _ H.c1
  · rw [cell_set_ne _ _ _ _ _ (by decide)]; exact cell7 2 _ H.c2
  · exact World.cell?_setCell_same w7 ⟨G, 3, none⟩ _ (cell7 3 _ H.c3)
  · rw [hs]
    exact CO_gb co hset (fun i hi e => by injection e with e; exact (d7 i hi).2.2 e) (fun i _ hi e => by injection e with e; exact hi.2.2 e)
  · exact WS_gb W7 hset (fun e => by injection e with e; exact H.gg e.symm) (fun i hi e => by injection e with e; rw [e] at hi; exact H.dG hi) (fun i _ hi e => by injection e with e; exact hi.2.1 e)
  · exact fr2_gb (fr2_gb H.F hgr (fun i hi => .inr (.inr (hkl i hi).1))) hset (fun i hi => by injection hi with e; exact .inr (.inr (e ▸ H.gs)))
end Rt
end Go.Proofs.YtefgamhnikeekaaDoor
namespace Go.Proofs.YtefgamhnikeekaaDoor
namespace Rt
open Nb Sp Pk Rs Go.RowKit
theorem WS_app (ty : TypeId) {B gw : Nat} {X : Nat → Prop} {l : List (List UInt8)} {cv vb : Value} {w : World} (h : WS B gw X l cv w) (hv : Vl [.slice none 0 0] vb w) (hB : B ≤ w.heap.size) (hn : l.length ≤ 4194300) (hX : ∀ i, X i → i ≠ gw) :
    ∃ a N c w7, (Builtin.append_ #[23, 23] ty #[cv, vb]).run Tryd.prog w = .ok (.slice a N c) w7 ∧ (w7.cell? ⟨gw, 0, none⟩ = some cv ∧ w7.frozen? ⟨gw, 0, none⟩ = false) ∧
      WS B gw X (l ++ [[]]) (.slice a N c) (w7.setCell ⟨gw, 0, none⟩ (.slice a N c)) ∧ Fr2 w (w7.setCell ⟨gw, 0, none⟩ (.slice a N c)) gw cv.ownBlock ∧ (∀ g, (Value.slice a N c).ownBlock = some g → cv.ownBlock = some g ∨ w.heap.size ≤ g) := by
  obtain ⟨v', w7, hap, co, hgr, hw⟩ := CO_app (m := [[]]) ty h.co hv rfl (fun j hj => by
    have : j = 0 := by simp at hj; omega
    subst this
    exact Ty_nil _ _) hB (by simp only [List.length_singleton]; omega)
  obtain ⟨a, c, rfl, _⟩ := CO_form co
  have hlen : (l ++ [[]]).length = l.length + 1 := by rw [List.length_append]; rfl
  rw [hlen] at hap co hw
  have hne : some gw ≠ cv.ownBlock := fun e => h.ne e.symm
  have hbk := hgr.block gw h.hi hne
  have hset := gb_set w7 gw 0 (.slice a (l.length + 1) c)
  have ne7 : (Value.slice a (l.length + 1) c).ownBlock ≠ some gw := fun e => by
    rcases hw gw e with e2 | e2
    · exact h.ne e2
    · have := h.hi; omega
  refine ⟨a, _, c, w7, hap, ⟨(World.cell?_of_block (a := ⟨gw, 0, none⟩) hbk).trans h.c, (World.frozen?_of_block (a := ⟨gw, 0, none⟩) hbk).trans (h.f 0)⟩, ⟨?_, ?_, fun o => ?_, ?_, ne7⟩, fr2_gb (fr2_gb (fr2_refl _ _ _) hgr (fun i hi => .inr (.inl hi))) hset (fun i hi => by injection hi with e; exact .inl e.symm), fun g hg => ?_⟩
  · rw [World.size_setCell]; exact Nat.lt_of_lt_of_le h.hi hgr.size
  · exact World.cell?_setCell_same w7 ⟨gw, 0, none⟩ _ ((World.cell?_of_block (a := ⟨gw, 0, none⟩) hbk).trans h.c)
  · rw [World.frozen?_setCell, World.frozen?_of_block (a := ⟨gw, o, none⟩) hbk]; exact h.f o
  · exact CO_gb co hset (fun i hi e => by injection e with e; rw [e] at hi; exact ne7 hi) (fun i _ hi e => by injection e with e; exact hX i hi e)
  · rcases hw g hg with e | e
    · exact .inl e
    · exact .inr (by omega)
theorem set_mid (l m : List (List UInt8)) (c : List UInt8) : (l ++ [] :: m).set l.length c = l ++ c :: m := by simp
theorem WS_form {B gw : Nat} {X : Nat → Prop} {l m : List (List UInt8)} {cv : Value} {w : World} (h : WS B gw X (l ++ [] :: m) cv w) : ∃ g cap, cv = .slice (some ⟨g, 0, none⟩) (l.length + 1 + m.length) cap := by
  have hlen : (l ++ [] :: m).length = l.length + 1 + m.length := by rw [List.length_append, List.length_cons]; omega
  obtain ⟨hs, hl, ho, _⟩ := h.co
  rcases ho.2 with ⟨_, h4⟩ | ⟨g, cap, cur, h3, _⟩
  · omega
  · exact ⟨g, cap, by rw [h3, hlen]⟩
theorem WS_set {B gw g cap N : Nat} {X : Nat → Prop} {l m : List (List UInt8)} {c : List UInt8} {y : Value} {w : World} (h : WS B gw X (l ++ [] :: m) (.slice (some ⟨g, 0, none⟩) N cap) w) (ht : Ty (fun k => B ≤ k ∧ (Value.slice (some ⟨g, 0, none⟩) N cap).ownBlock ≠ some k ∧ X k) c y w) :
    (∃ z, w.cell? ⟨g, l.length, none⟩ = some z) ∧ w.frozen? ⟨g, l.length, none⟩ = false ∧ WS B gw X (l ++ c :: m) (.slice (some ⟨g, 0, none⟩) N cap) (w.setCell ⟨g, l.length, none⟩ y) ∧ (w.setCell ⟨g, l.length, none⟩ y).cell? ⟨g, l.length, none⟩ = some y := by
  have hr := CO_set h.co l.length (by rw [List.length_append, List.length_cons]; omega) ht
  rw [set_mid] at hr
  obtain ⟨z, hz⟩ := Option.isSome_iff_exists.1 hr.1
  have hgw : g ≠ gw := fun e => h.ne (by rw [e]; rfl)
  refine ⟨⟨z, hz⟩, hr.2.1, ⟨?_, ?_, fun o => ?_, hr.2.2, h.ne⟩, World.cell?_setCell_same w _ _ hz⟩
  · rw [World.size_setCell]; exact h.hi
  · rw [World.cell?_setCell_other w ⟨g, l.length, none⟩ ⟨gw, 0, none⟩ _ (fun e => hgw (by injection e))]; exact h.c
  · rw [World.frozen?_setCell]; exact h.f o
theorem NI_init {ws : World} {r0 : Option Nat} {B gw : Nat} {X : Nat → Prop} {k : Int} {pv vv : Value} {ks : List Nd} {l : List (List UInt8)} {cv : Value} {w8 w9 w1 : World} (hW : WS B gw X l cv w8) (hF : Fr2 ws w8 gw r0) (ho : ∀ g, cv.ownBlock = some g → r0 = some g ∨ ws.heap.size ≤ g) (b9 : Below w8.heap.size w8 w9) (g1 : w9.grownBy w1 (some w8.heap.size)) (xb : BS w8.heap.size w1)
    (s0 : w1.cell? ⟨w8.heap.size, 0, none⟩ = some (.int .i64 k)) (s1 : w1.cell? ⟨w8.heap.size, 1, none⟩ = some pv) (s2 : w1.cell? ⟨w8.heap.size, 2, none⟩ = some vv) (s3 : w1.cell? ⟨w8.heap.size, 3, none⟩ = some (.slice none 0 0)) :
    NI ws r0 B gw w8.heap.size X k pv vv ks l 0 0 (.slice none 0 0) cv w1 := by
  have hcl := CO_lt hW.co
  refine ⟨xb, fun e => by have := hW.hi; omega, hF.size, s0, s1, s2, s3, CO_nil _ _ _, ?_, nofun, fun e => by have := (hcl _ e).2; omega, fr2_gb (fr2_below hF b9) g1 (fun i hi => by injection hi with e; exact .inr (.inr (by have := hF.size; omega))), ho⟩
  have e0 : l ++ cdk (ks.take 0) = l := by simp [cdk]
  rw [e0]
  refine WS_gb (WS_below (WS_mono hW (fun i _ hi hx => ⟨hx, by omega, nofun⟩)) b9) g1 (fun e => by injection e with e; have := hW.hi; omega) (fun i hi e => by injection e with e; have := (hcl i hi).2; omega) (fun i _ hx e => by injection e with e; exact hx.2.1 e)
theorem NI_set {ws : World} {r0 : Option Nat} {B gw G g cap N : Nat} {X : Nat → Prop} {k : Int} {pv vv : Value} {ks : List Nd} {l : List (List UInt8)} {jk jr : Nat} {kv y : Value} {c : List UInt8} {w1 w10 : World} (H : NI ws r0 B gw G X k pv vv ks (l ++ [[]]) jk jr kv (.slice (some ⟨g, 0, none⟩) N cap) w1) (b10 : Below w1.heap.size w1 w10) (hy : Ty (w1.heap.size ≤ ·) c y w10) (hX1 : ∀ i, ws.heap.size ≤ i → X i) (hB : B ≤ ws.heap.size) :
    (∃ z, w10.cell? ⟨g, l.length, none⟩ = some z) ∧ w10.frozen? ⟨g, l.length, none⟩ = false ∧ WS B gw X (l ++ c :: cdk (ks.take jr)) (.slice (some ⟨g, 0, none⟩) N cap) (w10.setCell ⟨g, l.length, none⟩ y) ∧ (w10.setCell ⟨g, l.length, none⟩ y).cell? ⟨g, l.length, none⟩ = some y ∧ Fr2 ws (w10.setCell ⟨g, l.length, none⟩ y) gw r0 ∧ Ty (fun i => w1.heap.size ≤ i) c y (w10.setCell ⟨g, l.length, none⟩ y) := by
  have hW : WS B gw X (l ++ [] :: cdk (ks.take jr)) (.slice (some ⟨g, 0, none⟩) N cap) w1 := by
    have := WS_mono (Y := X) H.W (fun i _ _ hx => hx.1)
    rwa [List.append_assoc] at this
  have hgl := (CO_lt hW.co g rfl).2
  obtain ⟨h1, h2, h3, h4⟩ := WS_set (c := c) (y := y) (WS_below hW b10) (Ty_mono hy (fun i hi _ => ⟨by have := H.F.size; omega, fun e => (by injection e with e; dsimp only at e; omega), hX1 i (by have := H.F.size; omega)⟩))
  refine ⟨h1, h2, h3, h4, fr2_gb (fr2_below H.F b10) (gb_set w10 g l.length y) (fun i hi => ?_), Ty_gb hy (gb_set w10 g l.length y) (fun i hi e => by injection e with e; omega)⟩
  injection hi with e
  subst e
  exact .inr (H.o g rfl)
end Rt
end Go.Proofs.YtefgamhnikeekaaDoor
namespace Go.Proofs.YtefgamhnikeekaaDoor
namespace Tr
open Nb Go.RowKit
mutual
def sn : Nd → Nd → Bool
  | .mk k p v ks, .mk k2 p2 v2 ks2 => decide (k = k2) && (if k = 1 then decide (p = p2) && decide (v = v2) else if k = 2 then decide (p = p2) && sns ks ks2 else if k = 3 then decide (v = v2) && sns ks ks2 else true)
def sns : List Nd → List Nd → Bool
  | [], [] => true
  | a :: r, b :: s => sn a b && sns r s
  | [], _ :: _ => false
  | _ :: _, [] => false
end
mutual
theorem sn_bn : ∀ a b : Nd, sn a b = true ↔ bn a = bn b
  | .mk k p v ks, .mk k2 p2 v2 ks2 => by
    unfold sn
    rw [Bool.and_eq_true, decide_eq_true_eq]
    constructor
    · rintro ⟨rfl, h⟩
      unfold bn
      split at h
      · rename_i h1
        rw [Bool.and_eq_true, decide_eq_true_eq, decide_eq_true_eq] at h
        rw [if_pos h1, if_pos h1, h.1, h.2]
      split at h
      · rename_i h1 h2
        rw [Bool.and_eq_true, decide_eq_true_eq, sns_bns ks ks2] at h
        rw [if_neg h1, if_neg h1, if_pos h2, if_pos h2, h.1, h.2]
      split at h
      · rename_i h1 h2 h3
        rw [Bool.and_eq_true, decide_eq_true_eq, sns_bns ks ks2] at h
        rw [if_neg h1, if_neg h1, if_neg h2, if_neg h2, if_pos h3, if_pos h3, h.1, h.2]
      · rename_i h1 h2 h3
        rw [if_neg h1, if_neg h1, if_neg h2, if_neg h2, if_neg h3, if_neg h3]
    · intro h
      have hk : k = k2 := by
        have := congrArg Nd.kind h
        rwa [bn_kind, bn_kind] at this
      subst hk
      refine ⟨rfl, ?_⟩
      unfold bn at h
      split
      · rename_i h1
        rw [if_pos h1, if_pos h1] at h
        injection h with _ e1 e2 _
        rw [Bool.and_eq_true, decide_eq_true_eq, decide_eq_true_eq]
        exact ⟨e1, e2⟩
      split
      · rename_i h1 h2
        rw [if_neg h1, if_neg h1, if_pos h2, if_pos h2] at h
        injection h with _ e1 _ e2
        rw [Bool.and_eq_true, decide_eq_true_eq, sns_bns ks ks2]
        exact ⟨e1, e2⟩
      split
      · rename_i h1 h2 h3
        rw [if_neg h1, if_neg h1, if_neg h2, if_neg h2, if_pos h3, if_pos h3] at h
        injection h with _ _ e1 e2
        rw [Bool.and_eq_true, decide_eq_true_eq, sns_bns ks ks2]
        exact ⟨e1, e2⟩
      · rfl
theorem sns_bns : ∀ a b : List Nd, sns a b = true ↔ bns a = bns b
  | [], [] => by simp [sns, bns]
  | [], _ :: _ => by simp [sns, bns]
  | _ :: _, [] => by simp [sns, bns]
  | k :: a, j :: b => by
    unfold sns bns
    rw [Bool.and_eq_true, sn_bn k j, sns_bns a b, List.cons.injEq]
end
theorem sns_len : ∀ a b : List Nd, a.length ≠ b.length → sns a b = false
  | [], [], h => absurd rfl h
  | [], _ :: _, _ => by simp [sns]
  | _ :: _, [], _ => by simp [sns]
  | k :: a, j :: b, h => by
    unfold sns
    rw [sns_len a b (by simpa using h), Bool.and_false]
theorem sns_all : ∀ a b : List Nd, a.length = b.length → (∀ j, j < a.length → sn (a.getD j Nd.no) (b.getD j Nd.no) = true) → sns a b = true
  | [], [], _, _ => by simp [sns]
  | [], _ :: _, h, _ => by simp at h
  | _ :: _, [], h, _ => by simp at h
  | k :: a, j :: b, h, hi => by
    have h0 := hi 0 (by simp)
    have h1 := sns_all a b (by simpa using h) (fun i hj => by have := hi (i + 1) (by simpa using hj); simpa only [List.getD_cons_succ] using this)
    unfold sns
    rw [h1, Bool.and_true]
    simpa only [List.getD_cons_zero] using h0
theorem sns_one : ∀ (a b : List Nd) (i : Nat), a.length = b.length → i < a.length → sn (a.getD i Nd.no) (b.getD i Nd.no) = false → sns a b = false
  | [], [], i, _, hi, _ => by simp at hi
  | [], _ :: _, _, h, _, _ => by simp at h
  | _ :: _, [], h, _, _, _ => by simp_all
  | k :: a, j :: b, 0, _, _, hs => by
    unfold sns
    rw [show sn k j = false from hs, Bool.false_and]
  | k :: a, j :: b, i + 1, h, hi, hs => by
    unfold sns
    rw [sns_one a b i (by simpa using h) (by simpa using hi) (by simpa only [List.getD_cons_succ] using hs), Bool.and_false]
set_option maxHeartbeats 1000000 in
set_option maxRecDepth 100000 in
theorem eqf_len (a1 a2 : Option Addr) (n1 c1 n2 c2 : Nat) (w : World) (h : n1 ≠ n2) :
    Calls Tryd.prog 52 #[.slice a1 n1 c1, .slice a2 n2 c2, .func (.func 33) #[] #[]] w fun e w' => e = .returned (.bool false) ∧ Below w.heap.size w w' := by
  have d0 : ((n1 : Int) != (n2 : Int)) = true := bne_iff_ne.2 (by omega)
  have d1 : (n1 != n2) = true := bne_iff_ne.2 h
  have B : Hid (Below w.heap.size w w) := Below.refl _ _
  go_enter Tryd.func52, Tryd.ntmps52
  go_wp2_with fail
  go_ret
  exact ⟨rfl, B.out⟩
set_option maxHeartbeats 1000000 in
set_option maxRecDepth 100000 in
theorem eqf_any (S T : Nat → Prop) (ks js : List Nd) (vs us : List V4) (a1 a2 : Option Addr) (n c1 c2 : Nat) (w : World) (hn : Hid (n = ks.length)) (hn2 : Hid (n = js.length)) (hl : Hid (vs.length = ks.length)) (hl2 : Hid (us.length = js.length))
    (hk : Hid (Ks S vs (.slice a1 n c1) w)) (hk2 : Hid (Ks T us (.slice a2 n c2) w)) (hi : Hid (∀ j, j < ks.length → Nv S w (ks.getD j Nd.no) (vs.getD j n4))) (hi2 : Hid (∀ j, j < js.length → Nv T w (js.getD j Nd.no) (us.getD j n4)))
    (IH : Hid (∀ j, j < ks.length → ∀ (v u : V4) (w : World), Nv S w (ks.getD j Nd.no) v → Nv T w (js.getD j Nd.no) u → Calls Tryd.prog 33 #[v4 v, v4 u] w fun e w' => e = .returned (.bool (sn (ks.getD j Nd.no) (js.getD j Nd.no))) ∧ Below w.heap.size w w')) (hz : Hid (n ≤ 4194304)) :
    Calls Tryd.prog 52 #[.slice a1 n c1, .slice a2 n c2, .func (.func 33) #[] #[]] w fun e w' => e = .returned (.bool (sns ks js)) ∧ Below w.heap.size w w' := by
  have d0 : ((n : Int) != (n : Int)) = false := by simp
  go_enter Tryd.func52, Tryd.ntmps52
  go_wp2_with fail
  go_loopw [17] (fun i wr => ∃ k : Nat, k ≤ n ∧ i = .int .i64 (k : Int) ∧ (∀ j, j < k → sn (ks.getD j Nd.no) (js.getD j Nd.no) = true) ∧ Below w.heap.size w wr) (fun i _ => ((n : Int) - intOf i).toNat)
  case atStart => exact ⟨0, Nat.zero_le _, rfl, fun j hj => absurd hj (by omega), Below.refl _ _⟩
  case round =>
    obtain ⟨k, hkn, rfl, hall, hB⟩ := hrel
    by_cases hlt : k < n
    · have d0 : decide ((k : Int) < (n : Int)) = true := decide_eq_true (by omega)
      have d1 : (0 : Int) ≤ (k : Int) := by omega
      have d2 : (k : Int) < (n : Int) := by omega
      have hks : k < ks.length := by have := hn.out; omega
      have hjs : k < js.length := by have := hn2.out; omega
      obtain ⟨ao, cap, e2, -, hq⟩ := hk.out
      obtain ⟨gk, off, rfl, -, hgk, hcell⟩ := hq (by have := hl.out; omega)
      injection e2 with e2 e2' e2''
      subst e2
      clear e2' e2''
      obtain ⟨ao2, cap2, e3, -, hq2⟩ := hk2.out
      obtain ⟨gj, off2, rfl, -, hgj, hcell2⟩ := hq2 (by have := hl2.out; omega)
      injection e3 with e3 e3' e3''
      subst e3
      clear e3' e3''
      obtain ⟨x0, x1, x2, x3⟩ := hcell k (by have := hl.out; omega)
      obtain ⟨y0, y1, y2, y3⟩ := hcell2 k (by have := hl2.out; omega)
      have iv := hi.out k hks
      have jv := hi2.out k hjs
      obtain ⟨q, b1, m1, q1, b2, m2, q2, b3, m3, q3, ev⟩ := Nv_form iv
      obtain ⟨r, f1, s1, r1, f2, s2, r2, f3, s3, r3, eu⟩ := Nv_form jv
      rw [ev] at x0 x1 x2 x3 iv
      rw [eu] at y0 y1 y2 y3 jv
      have KB : Hid (∀ w : World, Nv S w (ks.getD k Nd.no) (.int .i64 q, .slice b1 m1 q1, .slice b2 m2 q2, .slice b3 m3 q3) → Nv T w (js.getD k Nd.no) (.int .i64 r, .slice f1 s1 r1, .slice f2 s2 r2, .slice f3 s3 r3) → Calls Tryd.prog 33 #[.agg #[.int .i64 q, .slice b1 m1 q1, .slice b2 m2 q2, .slice b3 m3 q3], .agg #[.int .i64 r, .slice f1 s1 r1, .slice f2 s2 r2, .slice f3 s3 r3]] w fun e w' => e = .returned (.bool (sn (ks.getD k Nd.no) (js.getD k Nd.no))) ∧ Below w.heap.size w w') := IH.out k hks (.int .i64 q, .slice b1 m1 q1, .slice b2 m2 q2, .slice b3 m3 q3) (.int .i64 r, .slice f1 s1 r1, .slice f2 s2 r2, .slice f3 s3 r3)
      have z0 := (hB.cell (p := ⟨gk, off + 4 * k, none⟩) hgk).trans x0
      have z1 := (hB.cell (p := ⟨gk, off + 4 * k + 1, none⟩) hgk).trans x1
      have z2 := (hB.cell (p := ⟨gk, off + 4 * k + 2, none⟩) hgk).trans x2
      have z3 := (hB.cell (p := ⟨gk, off + 4 * k + 3, none⟩) hgk).trans x3
      have t0 := (hB.cell (p := ⟨gj, off2 + 4 * k, none⟩) hgj).trans y0
      have t1 := (hB.cell (p := ⟨gj, off2 + 4 * k + 1, none⟩) hgj).trans y1
      have t2 := (hB.cell (p := ⟨gj, off2 + 4 * k + 2, none⟩) hgj).trans y2
      have t3 := (hB.cell (p := ⟨gj, off2 + 4 * k + 3, none⟩) hgj).trans y3
      have hgk2 : gk < wr.heap.size := Nat.lt_of_lt_of_le hgk hB.size
      have hgj2 : gj < wr.heap.size := Nat.lt_of_lt_of_le hgj hB.size
      rw [Nat.mul_comm 4 k] at z0 z1 z2 z3 t0 t1 t2 t3
      have bA : Below wr.heap.size wr ((wr.alloc (.cells #[.int .i64 q, .slice b1 m1 q1, .slice b2 m2 q2, .slice b3 m3 q3] 32)).alloc (.cells #[.int .i64 r, .slice f1 s1 r1, .slice f2 s2 r2, .slice f3 s3 r3] 32)) := ((Below.refl _ _).alloc (Nat.le_refl _) _).alloc (by simp) _
      have IW : Hid (Nv S ((wr.alloc (.cells #[.int .i64 q, .slice b1 m1 q1, .slice b2 m2 q2, .slice b3 m3 q3] 32)).alloc (.cells #[.int .i64 r, .slice f1 s1 r1, .slice f2 s2 r2, .slice f3 s3 r3] 32)) (ks.getD k Nd.no) (.int .i64 q, .slice b1 m1 q1, .slice b2 m2 q2, .slice b3 m3 q3)) := Nv_below (Nv_below iv hB) bA
      have JW : Hid (Nv T ((wr.alloc (.cells #[.int .i64 q, .slice b1 m1 q1, .slice b2 m2 q2, .slice b3 m3 q3] 32)).alloc (.cells #[.int .i64 r, .slice f1 s1 r1, .slice f2 s2 r2, .slice f3 s3 r3] 32)) (js.getD k Nd.no) (.int .i64 r, .slice f1 s1 r1, .slice f2 s2 r2, .slice f3 s3 r3)) := Nv_below (Nv_below jv hB) bA
      have B2 : Hid (Below w.heap.size w ((wr.alloc (.cells #[.int .i64 q, .slice b1 m1 q1, .slice b2 m2 q2, .slice b3 m3 q3] 32)).alloc (.cells #[.int .i64 r, .slice f1 s1 r1, .slice f2 s2 r2, .slice f3 s3 r3] 32))) := hB.trans (bA.mono hB.size)
      have e5 : Hid (wrap64 ((k : Int) + 1) = ((k + 1 : Nat) : Int)) := by have := hz.out; show _ = _; unfold wrap64; omega
      have HALL : Hid _ := hall
      have HF : Hid (sn (ks.getD k Nd.no) (js.getD k Nd.no) = false → sns ks js = false) := fun h => sns_one ks js k (by have := hn.out; have := hn2.out; omega) hks h
      clear hq hq2 hcell hcell2 x0 x1 x2 x3 y0 y1 y2 y3 ev eu iv jv bA hall hks hjs
      go_wp2_with fail
      refine (KB.out _ IW.out JW.out).mono (fun e w5 he => ?_)
      obtain ⟨rfl, b5⟩ := he
      have B5 : Below w.heap.size w w5 := B2.out.trans (b5.mono B2.out.size)
      clear KB IW JW B2 z0 z1 z2 z3 t0 t1 t2 t3 b5
      cases hb : sn (ks.getD k Nd.no) (js.getD k Nd.no) with
      | true =>
        go_wp2_with fail
        rw [e5.out]
        refine ⟨⟨k + 1, hlt, rfl, fun j hj => ?_, B5⟩, msr_up k n hlt⟩
        rcases Nat.lt_or_ge j k with h | h
        · exact HALL.out j h
        · have e : j = k := by omega
          rw [e]; exact hb
      | false =>
        have hf : Hid (sns ks js = false) := HF.out hb
        go_wp2_with fail
        go_ret
        exact ⟨by rw [hf.out]; rfl, B5⟩
    · have d0 : decide ((k : Int) < (n : Int)) = false := decide_eq_false (by omega)
      have hs : Hid (sns ks js = true) := sns_all ks js (by have := hn.out; have := hn2.out; omega) (fun j hj => hall j (by have := hn.out; omega))
      have BF : Hid (Below w.heap.size w wr) := hB
      go_wp2_with fail
      go_ret
      exact ⟨by rw [hs.out]; rfl, BF.out⟩
end Tr
end Go.Proofs.YtefgamhnikeekaaDoor
namespace Go.Proofs.YtefgamhnikeekaaDoor
namespace Tr
open Nb Go.RowKit
set_option maxHeartbeats 1000000 in
set_option maxRecDepth 100000 in
theorem same_kind (a1 a2 a3 b1 b2 b3 : Option Addr) (n1 c1 n2 c2 n3 c3 m1 d1 m2 d2 m3 d3 : Nat) (w : World) (k j : Int) (h : k ≠ j) :
    Calls Tryd.prog 33 #[.agg #[.int .i64 k, .slice a1 n1 c1, .slice a2 n2 c2, .slice a3 n3 c3], .agg #[.int .i64 j, .slice b1 m1 d1, .slice b2 m2 d2, .slice b3 m3 d3]] w fun e w' => e = .returned (.bool false) ∧ Below w.heap.size w w' := by
  have d0 : (k != j) = true := bne_iff_ne.2 h
  have B1 : Below w.heap.size w ((w.alloc (.cells #[.int .i64 k, .slice a1 n1 c1, .slice a2 n2 c2, .slice a3 n3 c3] 32)).alloc (.cells #[.int .i64 j, .slice b1 m1 d1, .slice b2 m2 d2, .slice b3 m3 d3] 32)) := ((Below.refl _ _).alloc (Nat.le_refl _) _).alloc (by simp) _
  have B : Hid (Below w.heap.size w ((w.alloc (.cells #[.int .i64 k, .slice a1 n1 c1, .slice a2 n2 c2, .slice a3 n3 c3] 32)).alloc (.cells #[.int .i64 j, .slice b1 m1 d1, .slice b2 m2 d2, .slice b3 m3 d3] 32))) := B1
  clear B1 h
  go_enter Tryd.func33, Tryd.ntmps33
  go_wp2_with fail
  go_ret
  exact ⟨rfl, B.out⟩
set_option maxHeartbeats 1000000 in
set_option maxRecDepth 100000 in
theorem same_other (a1 a2 a3 b1 b2 b3 : Option Addr) (n1 c1 n2 c2 n3 c3 m1 d1 m2 d2 m3 d3 : Nat) (w : World) (k : Int) (h1 : k ≠ 1) (h2 : k ≠ 2) (h3 : k ≠ 3) :
    Calls Tryd.prog 33 #[.agg #[.int .i64 k, .slice a1 n1 c1, .slice a2 n2 c2, .slice a3 n3 c3], .agg #[.int .i64 k, .slice b1 m1 d1, .slice b2 m2 d2, .slice b3 m3 d3]] w fun e w' => e = .returned (.bool true) ∧ Below w.heap.size w w' := by
  have d0 : (k != k) = false := by simp
  have e1 : (k == 1) = false := beq_eq_false_iff_ne.2 h1
  have e2 : (k == 2) = false := beq_eq_false_iff_ne.2 h2
  have e3 : (k == 3) = false := beq_eq_false_iff_ne.2 h3
  have B1 : Below w.heap.size w ((w.alloc (.cells #[.int .i64 k, .slice a1 n1 c1, .slice a2 n2 c2, .slice a3 n3 c3] 32)).alloc (.cells #[.int .i64 k, .slice b1 m1 d1, .slice b2 m2 d2, .slice b3 m3 d3] 32)) := ((Below.refl _ _).alloc (Nat.le_refl _) _).alloc (by simp) _
  have B : Hid (Below w.heap.size w ((w.alloc (.cells #[.int .i64 k, .slice a1 n1 c1, .slice a2 n2 c2, .slice a3 n3 c3] 32)).alloc (.cells #[.int .i64 k, .slice b1 m1 d1, .slice b2 m2 d2, .slice b3 m3 d3] 32))) := B1
  clear B1 h1 h2 h3
  go_enter Tryd.func33, Tryd.ntmps33
  go_wp2_with fail
  go_ret
  exact ⟨rfl, B.out⟩
set_option maxHeartbeats 1000000 in
set_option maxRecDepth 100000 in
theorem same_leaf (a1 a2 a3 b1 b2 b3 : Option Addr) (n1 c1 n2 c2 n3 c3 m1 d1 m2 d2 m3 d3 : Nat) (w : World) (p v q u : By) (hp : Pk.Sl p (.slice a1 n1 c1) w) (hv : Pk.Sl v (.slice a2 n2 c2) w) (hq : Pk.Sl q (.slice b1 m1 d1) w) (hu : Pk.Sl u (.slice b2 m2 d2) w) :
    Calls Tryd.prog 33 #[.agg #[.int .i64 1, .slice a1 n1 c1, .slice a2 n2 c2, .slice a3 n3 c3], .agg #[.int .i64 1, .slice b1 m1 d1, .slice b2 m2 d2, .slice b3 m3 d3]] w fun e w' => e = .returned (.bool (decide (p = q) && decide (v = u))) ∧ Below w.heap.size w w' := by
  have B1 : Below w.heap.size w ((w.alloc (.cells #[.int .i64 1, .slice a1 n1 c1, .slice a2 n2 c2, .slice a3 n3 c3] 32)).alloc (.cells #[.int .i64 1, .slice b1 m1 d1, .slice b2 m2 d2, .slice b3 m3 d3] 32)) := ((Below.refl _ _).alloc (Nat.le_refl _) _).alloc (by simp) _
  have B : Hid (Below w.heap.size w ((w.alloc (.cells #[.int .i64 1, .slice a1 n1 c1, .slice a2 n2 c2, .slice a3 n3 c3] 32)).alloc (.cells #[.int .i64 1, .slice b1 m1 d1, .slice b2 m2 d2, .slice b3 m3 d3] 32))) := B1
  have x1 := Sl_st (Pk.Sl_below hp B1)
  have x2 := Sl_st (Pk.Sl_below hv B1)
  have x3 := Sl_st (Pk.Sl_below hq B1)
  have x4 := Sl_st (Pk.Sl_below hu B1)
  clear B1 hp hv hq hu
  by_cases h1 : p = q
  · subst h1
    by_cases h2 : v = u
    · subst h2
      rw [decide_eq_true rfl, decide_eq_true rfl, Bool.true_and]
      generalize st p = X at *
      generalize st v = Y at *
      go_enter Tryd.func33, Tryd.ntmps33
      go_wp2_with fail
      go_ret
      exact ⟨rfl, B.out⟩
    · have hne : ((st v).toList == (st u).toList) = false := by rw [st_list, st_list]; exact beq_eq_false_iff_ne.2 h2
      have hne2 : ¬ (st v).toList = (st u).toList := by rw [st_list, st_list]; exact h2
      rw [decide_eq_true rfl, decide_eq_false h2, Bool.true_and]
      generalize st p = X at *
      generalize st v = Y at *
      generalize st u = Z at *
      go_enter Tryd.func33, Tryd.ntmps33
      go_wp2_with fail
      go_ret
      exact ⟨by first | rfl | simp [hne] | simp [hne2], B.out⟩
  · have hne : ((st p).toList == (st q).toList) = false := by rw [st_list, st_list]; exact beq_eq_false_iff_ne.2 h1
    have hne2 : ¬ (st p).toList = (st q).toList := by rw [st_list, st_list]; exact h1
    rw [decide_eq_false h1, Bool.false_and]
    generalize st p = X at *
    generalize st q = Z at *
    go_enter Tryd.func33, Tryd.ntmps33
    go_wp2_with fail
    go_ret
    exact ⟨by first | rfl | simp [hne] | simp [hne2], B.out⟩
set_option maxHeartbeats 1000000 in
set_option maxRecDepth 100000 in
theorem same_road (a1 a2 a3 b1 b2 b3 : Option Addr) (n1 c1 n2 c2 n3 c3 m1 d1 m2 d2 m3 d3 : Nat) (w : World) (p q : By) (R : Bool) (hp : Pk.Sl p (.slice a1 n1 c1) w) (hq : Pk.Sl q (.slice b1 m1 d1) w) (KE : Hid (∀ W : World, Below w.heap.size w W → Calls Tryd.prog 52 #[.slice a3 n3 c3, .slice b3 m3 d3, .func (.func 33) #[] #[]] W fun e w' => e = .returned (.bool R) ∧ Below W.heap.size W w')) :
    Calls Tryd.prog 33 #[.agg #[.int .i64 2, .slice a1 n1 c1, .slice a2 n2 c2, .slice a3 n3 c3], .agg #[.int .i64 2, .slice b1 m1 d1, .slice b2 m2 d2, .slice b3 m3 d3]] w fun e w' => e = .returned (.bool (decide (p = q) && R)) ∧ Below w.heap.size w w' := by
  have B1 : Below w.heap.size w ((w.alloc (.cells #[.int .i64 2, .slice a1 n1 c1, .slice a2 n2 c2, .slice a3 n3 c3] 32)).alloc (.cells #[.int .i64 2, .slice b1 m1 d1, .slice b2 m2 d2, .slice b3 m3 d3] 32)) := ((Below.refl _ _).alloc (Nat.le_refl _) _).alloc (by simp) _
  have B : Hid (Below w.heap.size w ((w.alloc (.cells #[.int .i64 2, .slice a1 n1 c1, .slice a2 n2 c2, .slice a3 n3 c3] 32)).alloc (.cells #[.int .i64 2, .slice b1 m1 d1, .slice b2 m2 d2, .slice b3 m3 d3] 32))) := B1
  have x1 := Sl_st (Pk.Sl_below hp B1)
  have x3 := Sl_st (Pk.Sl_below hq B1)
  have KK : Hid _ := KE.out _ B1
  clear B1 hp hq KE
  by_cases h1 : p = q
  · subst h1
    rw [decide_eq_true rfl, Bool.true_and]
    generalize st p = X at *
    go_enter Tryd.func33, Tryd.ntmps33
    go_wp2_with fail
    refine Calls.mono KK.out (fun e w2 he => ?_)
    obtain ⟨rfl, b2⟩ := he
    have B2 : Hid _ := B.out.trans (b2.mono B.out.size)
    clear b2 KK
    go_wp2_with fail
    go_ret
    exact ⟨rfl, B2.out⟩
  · have hne : ((st p).toList == (st q).toList) = false := by rw [st_list, st_list]; exact beq_eq_false_iff_ne.2 h1
    have hne2 : ¬ (st p).toList = (st q).toList := by rw [st_list, st_list]; exact h1
    rw [decide_eq_false h1, Bool.false_and]
    generalize st p = X at *
    generalize st q = Z at *
    clear KK
    go_enter Tryd.func33, Tryd.ntmps33
    go_wp2_with fail
    go_ret
    exact ⟨by first | rfl | simp [hne] | simp [hne2], B.out⟩
set_option maxHeartbeats 1000000 in
set_option maxRecDepth 100000 in
theorem same_fork (a1 a2 a3 b1 b2 b3 : Option Addr) (n1 c1 n2 c2 n3 c3 m1 d1 m2 d2 m3 d3 : Nat) (w : World) (p q : By) (R : Bool) (hp : Pk.Sl p (.slice a2 n2 c2) w) (hq : Pk.Sl q (.slice b2 m2 d2) w) (KE : Hid (∀ W : World, Below w.heap.size w W → Calls Tryd.prog 52 #[.slice a3 n3 c3, .slice b3 m3 d3, .func (.func 33) #[] #[]] W fun e w' => e = .returned (.bool R) ∧ Below W.heap.size W w')) :
    Calls Tryd.prog 33 #[.agg #[.int .i64 3, .slice a1 n1 c1, .slice a2 n2 c2, .slice a3 n3 c3], .agg #[.int .i64 3, .slice b1 m1 d1, .slice b2 m2 d2, .slice b3 m3 d3]] w fun e w' => e = .returned (.bool (decide (p = q) && R)) ∧ Below w.heap.size w w' := by
  have B1 : Below w.heap.size w ((w.alloc (.cells #[.int .i64 3, .slice a1 n1 c1, .slice a2 n2 c2, .slice a3 n3 c3] 32)).alloc (.cells #[.int .i64 3, .slice b1 m1 d1, .slice b2 m2 d2, .slice b3 m3 d3] 32)) := ((Below.refl _ _).alloc (Nat.le_refl _) _).alloc (by simp) _
  have B : Hid (Below w.heap.size w ((w.alloc (.cells #[.int .i64 3, .slice a1 n1 c1, .slice a2 n2 c2, .slice a3 n3 c3] 32)).alloc (.cells #[.int .i64 3, .slice b1 m1 d1, .slice b2 m2 d2, .slice b3 m3 d3] 32))) := B1
  have x1 := Sl_st (Pk.Sl_below hp B1)
  have x3 := Sl_st (Pk.Sl_below hq B1)
  have KK : Hid _ := KE.out _ B1
  clear B1 hp hq KE
  by_cases h1 : p = q
  · subst h1
    rw [decide_eq_true rfl, Bool.true_and]
    generalize st p = X at *
    go_enter Tryd.func33, Tryd.ntmps33
    go_wp2_with fail
    refine Calls.mono KK.out (fun e w2 he => ?_)
    obtain ⟨rfl, b2⟩ := he
    have B2 : Hid _ := B.out.trans (b2.mono B.out.size)
    clear b2 KK
    go_wp2_with fail
    go_ret
    exact ⟨rfl, B2.out⟩
  · have hne : ((st p).toList == (st q).toList) = false := by rw [st_list, st_list]; exact beq_eq_false_iff_ne.2 h1
    have hne2 : ¬ (st p).toList = (st q).toList := by rw [st_list, st_list]; exact h1
    rw [decide_eq_false h1, Bool.false_and]
    generalize st p = X at *
    generalize st q = Z at *
    clear KK
    go_enter Tryd.func33, Tryd.ntmps33
    go_wp2_with fail
    go_ret
    exact ⟨by first | rfl | simp [hne] | simp [hne2], B.out⟩
inductive Sm : Nd → Prop where
  | mk (k : Int) (p v : By) (ks : List Nd) (hk : ks.length ≤ 4194304) (h : ∀ j, j < ks.length → Sm (ks.getD j Nd.no)) : Sm (.mk k p v ks)
theorem same_any {t : Nd} (hs : Sm t) : ∀ (s : Nd) (S T : Nat → Prop) (v u : V4) (w : World), Nv S w t v → Nv T w s u → Calls Tryd.prog 33 #[v4 v, v4 u] w fun e w' => e = .returned (.bool (sn t s)) ∧ Below w.heap.size w w' := by
  induction hs with
  | mk k p v ks hk _ ih =>
    intro s S T x y w hx hy
    cases hx with
    | mk _ _ _ _ pv vv kv vs hp hv hl hkk hi =>
      cases hy with
      | mk k2 p2 v2 ks2 pv2 vv2 kv2 vs2 hp2 hv2 hl2 hkk2 hi2 =>
        have sp := Bs_sl hp
        have sv := Bs_sl hv
        have sp2 := Bs_sl hp2
        have sv2 := Bs_sl hv2
        obtain ⟨a1, c1, rfl, -, -⟩ := hp
        obtain ⟨a2, c2, rfl, -, -⟩ := hv
        obtain ⟨b1, d1, rfl, -, -⟩ := hp2
        obtain ⟨b2, d2, rfl, -, -⟩ := hv2
        have hkA := hkk
        have hkB := hkk2
        obtain ⟨a3, c3, rfl, -, -⟩ := hkk
        obtain ⟨b3, d3, rfl, -, -⟩ := hkk2
        show Calls Tryd.prog 33 #[.agg #[.int .i64 k, _, _, _], .agg #[.int .i64 k2, _, _, _]] w _
        unfold sn
        by_cases hkk : k = k2
        · subst hkk
          rw [decide_eq_true rfl, Bool.true_and]
          have KE : ∀ W : World, Below w.heap.size w W → Calls Tryd.prog 52 #[.slice a3 vs.length c3, .slice b3 vs2.length d3, .func (.func 33) #[] #[]] W fun e w' => e = .returned (.bool (sns ks ks2)) ∧ Below W.heap.size W w' := fun W hW => by
            by_cases hlen : ks.length = ks2.length
            · have e : vs2.length = vs.length := by omega
              rw [e] at hkB ⊢
              exact eqf_any S T ks ks2 vs vs2 a3 b3 vs.length c3 d3 W hl (by show _ = _; omega) hl (by show _ = _; omega) (Ks_below hkA hW) (Ks_below hkB hW) (fun j hj => Nv_below (hi j hj) hW) (fun j hj => Nv_below (hi2 j hj) hW) (fun j hj v u w h1 h2 => ih j hj _ S T v u w h1 h2) (by show _ ≤ _; omega)
            · rw [sns_len ks ks2 hlen]
              exact eqf_len a3 b3 _ _ _ _ W (by omega)
          by_cases h1 : k = 1
          · subst h1
            rw [if_pos rfl]
            exact same_leaf a1 a2 a3 b1 b2 b3 _ c1 _ c2 _ c3 _ d1 _ d2 _ d3 w p v p2 v2 sp sv sp2 sv2
          by_cases h2 : k = 2
          · subst h2
            rw [if_neg h1, if_pos rfl]
            exact same_road a1 a2 a3 b1 b2 b3 _ c1 _ c2 _ c3 _ d1 _ d2 _ d3 w p p2 _ sp sp2 KE
          by_cases h3 : k = 3
          · subst h3
            rw [if_neg h1, if_neg h2, if_pos rfl]
            exact same_fork a1 a2 a3 b1 b2 b3 _ c1 _ c2 _ c3 _ d1 _ d2 _ d3 w v v2 _ sv sv2 KE
          · rw [if_neg h1, if_neg h2, if_neg h3]
            exact same_other a1 a2 a3 b1 b2 b3 _ c1 _ c2 _ c3 _ d1 _ d2 _ d3 w k h1 h2 h3
        · rw [decide_eq_false hkk, Bool.false_and]
          exact same_kind a1 a2 a3 b1 b2 b3 _ c1 _ c2 _ c3 _ d1 _ d2 _ d3 w k k2 hkk
end Tr
end Go.Proofs.YtefgamhnikeekaaDoor
