/- Texts that came in. -/
import Derived.Test.YtcgimjlmihaegaaDoorPackF
import Derived.Test.YtcgimjlmihaegaaDoorPackA
import Derived.Deep.Matrix
namespace Go.Proofs.YtcgimjlmihaegaaDoor
namespace Sp
open Go.ChangeShapes Go.WideShapes Go.ChangeAt Go.RowKit Go.Joins Go.Deep
theorem cellsBs : Tryd.prog.cellsOf 22 = 1 := by kernel_rfl
theorem blk_one {H : Type} (d : DataW H) : 1 ≤ Rows.uptoBulk d := by
  unfold Rows.uptoBulk
  split <;> omega
theorem blk_len {H : Type} : ∀ l : List (DataW H), l.length ≤ Rows.uptoBulkAll l
  | [] => Nat.zero_le _
  | d :: r => by
    have h1 := blk_one d
    have h2 := blk_len r
    rw [Rows.uptoBulkAll, List.length_cons]
    omega
theorem blk_sum {H : Type} (f : Nat → DataW H) (g : Nat → List UInt8) (hf : ∀ r, (g r).length ≤ Rows.uptoBulk (f r)) : ∀ l : List Nat, ((l.map g).flatten).length ≤ Rows.uptoBulkAll (l.map f)
  | [] => Nat.zero_le _
  | r :: l => by
    have h1 := hf r
    have h2 := blk_sum f g hf l
    rw [List.map_cons, List.map_cons, List.flatten_cons, List.length_append, Rows.uptoBulkAll]
    omega
theorem row_len {H : Type} (A : Option Addr) (L C : Nat) (zs : List Int) (hl : zs.length = C) (hL : L ≤ C) (hA : A = none → C = 0) : (ub (zs.take L)).length ≤ Rows.uptoBulk (intRow .u8 A L zs : DataW H) := by
  rw [ub_length, List.length_take]
  cases A with
  | none => have := hA rfl; omega
  | some a =>
    have h := blk_len (lits (H := H) .u8 (zs.take L))
    have e : (lits (H := H) .u8 (zs.take L)).length = (zs.take L).length := by simp [lits]
    rw [e, List.length_take] at h
    show _ ≤ Rows.uptoBulk (.slice (lits .u8 (zs.take L)) (lits .u8 (zs.drop L)))
    rw [Rows.uptoBulk]
    omega
set_option maxRecDepth 100000 in
theorem open_texts {H : Type} {enc : TypeId × Value → H} {W : World} {r : Reach} {b0 : Nat} {v : Value} {d : DataW H} {p : List MemPlace}
    (hv : Value.okWide Tryd.prog W r b0 23 v) (h : DataW.Trod enc Tryd.prog W 0 (fun _ => true) true 23 v d p) :
    ∃ ps : List (List UInt8), Ls ps v W ∧ ps.length + 1 ≤ Rows.uptoBulk d ∧ ps.flatten.length ≤ Rows.uptoBulk d := by
  obtain ⟨a0, len, cap, rfl⟩ := okWide_slice Tryd.underlying23 hv
  obtain ⟨fuel, hf⟩ := h
  rcases open_int_rows Tryd.underlying23 Tryd.underlying22 Tryd.underlying5 cellsBs cellsU8 hf with ⟨hcs, hx⟩ | ⟨a, len', cap', A, L, C, Z, hcs, _, hl, hm, hx, hcell⟩
  · simp [Value.cells] at hcs
    obtain ⟨rfl, rfl, rfl⟩ := hcs
    exact ⟨[], ⟨none, 0, rfl, fun h => absurd h (by decide)⟩, blk_one d, Nat.zero_le _⟩
  · simp [Value.cells] at hcs
    obtain ⟨rfl, rfl, rfl⟩ := hcs
    simp only [Prod.mk.injEq] at hx
    have hpl : ((List.range len).map fun r => ub ((Z r).take (L r))).length = len := by simp
    have hb : Rows.uptoBulk d = Rows.uptoBulkAll ((List.range len).map fun r => (intRow .u8 (A r) (L r) (Z r) : DataW H)) + Rows.uptoBulkAll ((List.range (cap - len)).map fun j => (intRow .u8 (A (len + j)) (L (len + j)) (Z (len + j)) : DataW H)) + 1 := by rw [hx.1, Rows.uptoBulk]
    refine ⟨(List.range len).map fun r => ub ((Z r).take (L r)), ⟨some a, cap, by rw [hpl], fun h0 => ?_⟩, ?_, ?_⟩
    · rw [hpl] at h0
      obtain ⟨b, off, spot⟩ := a
      have hspot : spot = none := by simpa [Addr.add] using World.cell?_spot (hcell 0 (by omega)).1
      subst hspot
      refine ⟨b, off, rfl, World.block_lt_of_cell? W _ (by have := (hcell 0 (by omega)).1; simpa [Addr.add] using this), fun i hi => ?_⟩
      rw [hpl] at hi
      obtain ⟨q1, q2, q3, q4, q5, q6, q7⟩ := hcell i (by omega)
      rw [Go.WideShapes.add_plain] at q1
      refine ⟨_, q1, ?_⟩
      have e : (((List.range len).map fun r => ub ((Z r).take (L r))).getD i []) = ub ((Z i).take (L i)) := by simp [hi]
      rw [e]
      have hlt : (ub ((Z i).take (L i))).length = L i := by rw [ub_length, List.length_take]; omega
      have hb1 : ∀ z ∈ Z i, 0 ≤ z ∧ z < 256 := fun z hz' => by have := bounds_u8 (q5 z hz'); omega
      have hb2 : ∀ z ∈ (Z i).take (L i), 0 ≤ z ∧ z < 256 := fun z hz' => hb1 z (List.mem_of_mem_take hz')
      refine ⟨A i, C i, by rw [hlt], by rw [hlt]; exact q2, fun h1 => ?_⟩
      rw [hlt] at h1
      cases hA : A i with
      | none => have := q6 hA; omega
      | some a' =>
        obtain ⟨_, hc⟩ := q7 a' hA
        obtain ⟨b', off', rfl, hc'⟩ := ints_at (zs := Z i) (fun j hj => hc j (by omega)) (by omega)
        refine ⟨b', off', rfl, World.block_lt_of_cell? W ⟨b', off' + 0, none⟩ (hc' 0 (by omega)), fun j hj => ?_⟩
        rw [hlt] at hj
        rw [hc' j (by omega), ub_bz _ hb2 j (by rw [List.length_take]; omega)]
        simp [List.getD_eq_getElem?_getD, hj]
    · have := blk_len ((List.range len).map fun r => (intRow .u8 (A r) (L r) (Z r) : DataW H))
      rw [hpl, hb]
      simp at this
      omega
    · have hs := blk_sum (fun r => (if r < cap then intRow .u8 (A r) (L r) (Z r) else .nil : DataW H)) (fun r => if r < cap then ub ((Z r).take (L r)) else []) (fun r => by
        by_cases hr : r < cap
        · obtain ⟨q1, q2, q3, q4, q5, q6, q7⟩ := hcell r hr
          rw [if_pos hr, if_pos hr]
          exact row_len (A r) (L r) (C r) (Z r) q4 q2 q6
        · rw [if_neg hr, if_neg hr]
          exact Nat.zero_le _) (List.range len)
      have e1 : ((List.range len).map fun r => if r < cap then ub ((Z r).take (L r)) else []) = (List.range len).map fun r => ub ((Z r).take (L r)) := List.map_congr_left (fun r hr => by rw [if_pos (by have := List.mem_range.1 hr; omega)])
      have e2 : ((List.range len).map fun r => (if r < cap then intRow .u8 (A r) (L r) (Z r) else .nil : DataW H)) = (List.range len).map fun r => (intRow .u8 (A r) (L r) (Z r) : DataW H) := List.map_congr_left (fun r hr => by rw [if_pos (by have := List.mem_range.1 hr; omega)])
      rw [e1, e2] at hs
      rw [hb]
      omega
end Sp
end Go.Proofs.YtcgimjlmihaegaaDoor
/- A slice of bytes that came in: its room too. -/
namespace Go.Proofs.YtcgimjlmihaegaaDoor
namespace Sp
open Go.ChangeShapes Go.WideShapes Go.ChangeAt Go.RowKit
set_option maxRecDepth 100000 in
theorem open_bytes2 {H : Type} {enc : TypeId × Value → H} {W : World} {r : Reach} {b0 : Nat} {v : Value} {d : DataW H} {p : List MemPlace}
    (hv : Value.okWide Tryd.prog W r b0 22 v) (h : DataW.Trod enc Tryd.prog W 0 (fun _ => true) true 22 v d p) :
    ∃ (l : List UInt8) (ao : Option Addr) (cap : Nat), v = .slice ao l.length cap ∧ l.length ≤ cap ∧ (cap : Int) ≤ 9223372036854775807 ∧ Vw l ao W ∧ (l = [] ∨ ∃ elems spare, d = .slice elems spare ∧ elems.length = l.length) := by
  obtain ⟨l, ao, cap, rfl, h1, h2, h3⟩ := open_bytes hv h
  refine ⟨l, ao, cap, rfl, h1, ?_, h2, h3⟩
  obtain ⟨fuel, hf⟩ := h
  rcases open_ints Tryd.underlying22 Tryd.underlying5 cellsU8 hf with ⟨hcs, _⟩ | ⟨a, len', cap', zs, hcs, _, _, hm, _⟩
  · simp [Value.cells] at hcs
    omega
  · simp [Value.cells] at hcs
    obtain ⟨_, _, rfl⟩ := hcs
    unfold maxLen at hm
    omega
end Sp
end Go.Proofs.YtcgimjlmihaegaaDoor
/- An item that came in. -/
namespace Go.Proofs.YtcgimjlmihaegaaDoor
namespace Pk
open Go.ChangeShapes Go.WideShapes Go.ChangeAt Go.RowKit
mutual
/-- What an item weighs: all that it holds. -/
def wt : It → Nat
  | .mk _ t ks => 4 + t.length + wts ks
def wts : List It → Nat
  | [] => 0
  | k :: r => wt k + wts r
end
theorem wts_many : ∀ ks : List It, ks.length ≤ wts ks
  | [] => Nat.zero_le _
  | .mk l t js :: r => by
    have := wts_many r
    unfold wts wt
    rw [List.length_cons]; omega
theorem wts_one : ∀ (ks : List It) (j : Nat), j < ks.length → wt (ks.getD j It.no) ≤ wts ks
  | [], j, h => absurd h (by simp)
  | k :: r, 0, _ => by unfold wts; rw [List.getD_cons_zero]; omega
  | k :: r, j + 1, h => by
    have := wts_one r j (by simpa using h)
    unfold wts
    rw [List.getD_cons_succ]; omega
theorem sm_wt {t : It} (h : Wf t) : wt t ≤ 4194304 → Sm t := by
  induction h with
  | mk l t ks _ ih =>
    intro hw
    unfold wt at hw
    have h1 := wts_many ks
    exact .mk l t ks (by omega) (by omega) (fun j hj => ih j hj (by have := wts_one ks j hj; omega))
theorem nu_3 (n : Nat) (h : n < 16777216) : (nu n).length ≤ 3 := by
  rcases Nat.lt_or_ge 3 (nu n).length with h1 | h1
  · exfalso
    have k := cb_low (nu n) (nu_cb n) (by omega)
    have hv : vb 0 (nu n) = n := nu_vb n (Nat.lt_trans h (by decide))
    rw [hv] at k
    have k2 : 256 ^ 3 ≤ 256 ^ ((nu n).length - 1) := Nat.pow_le_pow_right (by decide) (by omega)
    have k3 : (256 : Nat) ^ 3 = 16777216 := by decide
    omega
  · exact h1
theorem hdr_4 (m n : Nat) (h : n < 16777216) : (hdr m n).length ≤ 4 := by
  unfold hdr
  split
  · simp
  · have := nu_3 n h
    rw [List.length_cons]; omega
mutual
theorem enc_wt : ∀ t : It, wt t ≤ 4194304 → (enc t).length ≤ wt t
  | .mk false t ks, h => by
    unfold wt at h ⊢
    unfold enc
    have := hdr_4 128 t.length (by omega)
    split
    · omega
    · rw [List.length_append]; omega
  | .mk true t ks, h => by
    unfold wt at h ⊢
    unfold enc
    have h1 := encs_wts ks (by omega)
    have := hdr_4 192 (encs ks).length (by omega)
    rw [List.length_append]; omega
theorem encs_wts : ∀ ks : List It, wts ks ≤ 4194304 → (encs ks).length ≤ wts ks
  | [], _ => Nat.le_refl _
  | k :: r, h => by
    unfold wts at h ⊢
    unfold encs
    have := enc_wt k (by omega)
    have := encs_wts r (by omega)
    rw [List.length_append]; omega
end
theorem blk1 {H : Type} (d : DataW H) : 1 ≤ Rows.uptoBulk d := by
  unfold Rows.uptoBulk
  split <;> omega
theorem blkN {H : Type} : ∀ l : List (DataW H), l.length ≤ Rows.uptoBulkAll l
  | [] => Nat.zero_le _
  | d :: r => by
    have h1 := blk1 d
    have h2 := blkN r
    rw [Rows.uptoBulkAll, List.length_cons]
    omega
theorem wts_blk {H : Type} (G : Nat → It) (D : Nat → DataW H) : ∀ l : List Nat, (∀ i, i ∈ l → wt (G i) ≤ Rows.uptoBulk (D i)) → wts (l.map G) ≤ Rows.uptoBulkAll (l.map D)
  | [], _ => Nat.zero_le _
  | i :: r, h => by
    have h1 := h i (List.mem_cons_self ..)
    have h2 := wts_blk G D r (fun j hj => h j (List.mem_cons_of_mem _ hj))
    rw [List.map_cons, List.map_cons, Rows.uptoBulkAll]
    unfold wts
    omega
theorem cells22 : Tryd.prog.cellsOf 22 = 1 := by kernel_rfl
theorem cells23 : Tryd.prog.cellsOf 42 = 1 := by kernel_rfl
theorem cells25 : Tryd.prog.cellsOf 44 = 3 := by kernel_rfl
theorem cells4 : Tryd.prog.cellsOf 4 = 1 := by kernel_rfl
/-- A text, by its cells. -/
theorem text_of {H : Type} {enc : TypeId × Value → H} {W : World} {fuel : Nat} {cs : List Value} {x : DataW H × List MemPlace} (hf : DataW.trod enc Tryd.prog W 0 (fun _ => true) true fuel 22 cs = some x) :
    ∃ (b : List UInt8) (v : Value), cs = [v] ∧ Ty (· < W.heap.size) b v W ∧ b.length + 1 ≤ Rows.uptoBulk x.1 := by
  rcases open_ints Tryd.underlying22 Tryd.underlying5 Sp.cellsU8 hf with ⟨hcs, hx⟩ | ⟨a, len, cap, zs, hcs, _, hl, hm, hz, hx, hcell, hwz⟩
  · subst hcs
    exact ⟨[], _, rfl, Ty_nil _ _, blk1 _⟩
  · subst hcs
    simp only [if_true] at hz
    have hb : ∀ z ∈ zs, 0 ≤ z ∧ z < 256 := fun z hz' => by have := bounds_u8 (hwz z hz'); omega
    have hb' : ∀ z ∈ zs.take len, 0 ≤ z ∧ z < 256 := fun z hz' => hb z (List.mem_of_mem_take hz')
    have hlt : (Sp.ub (zs.take len)).length = len := by rw [Sp.ub_length, List.length_take]; omega
    refine ⟨Sp.ub (zs.take len), _, rfl, ⟨some a, cap, by rw [hlt], by rw [hlt]; exact hl, fun h0 => ?_⟩, ?_⟩
    · rw [hlt] at h0
      obtain ⟨b, off, rfl, hc⟩ := ints_at hcell (by omega)
      have hbw : b < W.heap.size := World.block_lt_of_cell? W ⟨b, off + 0, none⟩ (hc 0 (by omega))
      refine ⟨b, off, rfl, hbw, hbw, fun j hj => ?_⟩
      rw [hlt] at hj
      rw [hc j (by omega), Sp.ub_bz _ hb' j (by rw [List.length_take]; omega)]
      simp [List.getD_eq_getElem?_getD, hj]
    · subst hx
      have h := blkN (lits (H := H) .u8 (zs.take len))
      have e : (lits (H := H) .u8 (zs.take len)).length = len := by simp [lits]; omega
      rw [e] at h
      rw [hlt]
      show _ ≤ Rows.uptoBulk (.slice (lits .u8 (zs.take len)) (lits .u8 (zs.drop len)))
      rw [Rows.uptoBulk]
      omega
theorem getD_map_range {α : Type} (f : Nat → α) (n j : Nat) (d : α) (h : j < n) : ((List.range n).map f).getD j d = f j := by
  rw [List.getD_eq_getElem?_getD, List.getElem?_map, List.getElem?_range h]
  rfl
set_option maxRecDepth 100000 in
/-- An item, by its cells. -/
theorem item_of {H : Type} {enc : TypeId × Value → H} {W : World} : ∀ (N fuel : Nat), fuel ≤ N → ∀ (cs : List Value) (x : DataW H × List MemPlace), DataW.trod enc Tryd.prog W 0 (fun _ => true) true fuel 44 cs = some x →
    ∃ (t : It) (u : V3), cs = [u.1, u.2.1, u.2.2] ∧ Iv (· < W.heap.size) W t u ∧ wt t ≤ Rows.uptoBulk x.1
  | 0, 0, _, cs, x, h => by simp [DataW.trod] at h
  | N + 1, fuel, hN, cs, x, h => by
    obtain ⟨xs, n, rfl, rfl, hl, hlen, hf⟩ := DataW.trod_struct Tryd.underlying44 h
    match xs, hlen with
    | [y0, y1, y2], _ =>
      have f0 := hf 0 _ rfl
      have f1 := hf 1 _ rfl
      have f2 := hf 2 _ rfl
      rw [cells25] at hl
      match cs, hl with
      | [c0, c1, c2], _ =>
        simp only [List.getElem?_cons_zero, List.getElem?_cons_succ] at f0 f1 f2
        obtain ⟨lb, e0, hy0⟩ := DataW.trod_bool Tryd.underlying4 f0
        obtain ⟨b, v, e1, ht, hb⟩ := text_of f1
        injection e0 with e0 _
        injection e1 with e1 _
        subst e0 e1
        have hB : Rows.uptoBulk (DataW.agg ([y0, y1, y2].map (·.1))) = Rows.uptoBulk y0.1 + (Rows.uptoBulk y1.1 + (Rows.uptoBulk y2.1 + 0)) + 1 := by
          rw [Rows.uptoBulk]
          rfl
        have h0 := blk1 y0.1
        rcases DataW.trod_slice Tryd.underlying42 f2 with ⟨hcs, hx⟩ | ⟨a, len, cap, elems, rest, m, rfl, hcs, hx, _, hle, _, hel, hat, _, _⟩
        · injection hcs with hcs _
          subst hcs
          have h2 := blk1 y2.1
          exact ⟨.mk lb b [], (.bool lb, c1, .slice none 0 0), rfl, .mk lb b [] _ _ [] ht rfl (Kx_nil _ _) (fun j hj => absurd hj (by simp)), by
            rw [hB]; unfold wt wts; omega⟩
        · injection hcs with hcs _
          subst hcs
          have HI : ∀ i, ∃ p : It × V3, i < len → (∃ cs', W.cells? 0 (a.add (i * 3)) 3 = some cs' ∧ cs' = [p.2.1, p.2.2.1, p.2.2.2]) ∧ Iv (· < W.heap.size) W p.1 p.2 ∧ wt p.1 ≤ Rows.uptoBulk (elems.getD i (.nil, [])).1 := fun i => by
            by_cases hi : i < len
            · have k := hat i hi
              rw [cells25] at k
              rw [List.getElem?_eq_getElem (by omega)] at k
              cases hc : W.cells? 0 (a.add (i * 3)) 3 with
              | none => rw [hc] at k; cases k
              | some cs' =>
                rw [hc] at k
                obtain ⟨t, u, e1, e2, e3⟩ := item_of N m (by omega) cs' _ k
                refine ⟨(t, u), fun _ => ⟨⟨cs', rfl, e1⟩, e2, ?_⟩⟩
                rw [List.getD_eq_getElem?_getD, List.getElem?_eq_getElem (by omega)]
                exact e3
            · exact ⟨(It.no, n3), fun h => absurd h hi⟩
          obtain ⟨F, hF⟩ := Classical.axiomOfChoice HI
          have hks : ((List.range len).map fun i => (F i).1).length = len := by simp
          have hvs : ((List.range len).map fun i => (F i).2).length = len := by simp
          refine ⟨.mk lb b ((List.range len).map fun i => (F i).1), (.bool lb, c1, .slice (some a) len cap), rfl, .mk lb b _ _ _ ((List.range len).map fun i => (F i).2) ht (by rw [hvs, hks]) ⟨some a, cap, by rw [hvs], by rw [hvs]; exact hle, fun hp => ?_⟩ (fun j hj => ?_), ?_⟩
          · rw [hvs] at hp
            obtain ⟨bl, off, spot⟩ := a
            have c00 := (hF 0 hp).1
            obtain ⟨cs', k1, k2⟩ := c00
            obtain ⟨_, _, k3⟩ := World.cells?_some k1
            have k4 := k3 0 (by decide)
            rw [k2] at k4
            have hspot : spot = none := by simpa [Addr.add] using World.cell?_spot k4
            subst hspot
            have hbw : bl < W.heap.size := World.block_lt_of_cell? W _ (by simpa [Go.WideShapes.add_plain] using k4)
            refine ⟨bl, off, rfl, hbw, hbw, fun j hj => ?_⟩
            rw [hvs] at hj
            rw [getD_map_range _ _ _ _ hj]
            obtain ⟨cs2, k5, k6⟩ := (hF j hj).1
            obtain ⟨_, _, k7⟩ := World.cells?_some k5
            rw [Go.WideShapes.add_plain] at k7
            have g0 := k7 0 (by decide)
            have g1 := k7 1 (by decide)
            have g2 := k7 2 (by decide)
            rw [Go.WideShapes.add_plain, k6] at g0 g1 g2
            rw [Nat.mul_comm 3 j]
            exact ⟨g0, g1, g2⟩
          · rw [hks] at hj
            rw [getD_map_range _ _ _ _ hj, getD_map_range _ _ _ _ hj]
            exact (hF j hj).2.1
          · have hw := wts_blk (fun i => (F i).1) (fun i => (elems.getD i (.nil, [])).1) (List.range len) (fun i hi => (hF i (List.mem_range.1 hi)).2.2)
            have e2 : (List.range len).map (fun i => (elems.getD i (.nil, [])).1) = elems.map (·.1) := by
              apply List.ext_getElem
              · simp [hel]
              · intro i h1 h2
                have : i < elems.length := by simpa using h2
                simp [this]
            rw [e2] at hw
            have hy2 : Rows.uptoBulk y2.1 = Rows.uptoBulkAll (elems.map (·.1)) + Rows.uptoBulkAll (rest.map (·.1)) + 1 := by
              rw [hx, Rows.uptoBulk]
            rw [hB, hy2]
            unfold wt
            omega
set_option maxRecDepth 100000 in
theorem open_item {H : Type} {enc : TypeId × Value → H} {W : World} {r : Reach} {b0 : Nat} {v : Value} {d : DataW H} {p : List MemPlace}
    (hv : Value.okWide Tryd.prog W r b0 44 v) (h : DataW.Trod enc Tryd.prog W 0 (fun _ => true) true 44 v d p) :
    ∃ (t : It) (u : V3), v = v3 u ∧ Iv (· < W.heap.size) W t u ∧ wt t ≤ Rows.uptoBulk d := by
  obtain ⟨cs, rfl, _⟩ := okWide_struct Tryd.underlying44 hv
  obtain ⟨fuel, hf⟩ := h
  obtain ⟨t, u, e1, e2, e3⟩ := item_of fuel fuel (Nat.le_refl _) _ _ hf
  refine ⟨t, u, ?_, e2, e3⟩
  have e4 : cs.toList = [u.1, u.2.1, u.2.2] := e1
  unfold v3
  rw [← e4]
end Pk
end Go.Proofs.YtcgimjlmihaegaaDoor
/- A shape that came in. -/
namespace Go.Proofs.YtcgimjlmihaegaaDoor
namespace Rs
open Nb Sp Go.ChangeShapes Go.WideShapes Go.ChangeAt Go.RowKit Go.Joins Go.Deep
set_option maxRecDepth 100000 in
theorem texts_of {H : Type} {enc : TypeId × Value → H} {W : World} {fuel : Nat} {cs : List Value} {x : DataW H × List MemPlace} (hf : DataW.trod enc Tryd.prog W 0 (fun _ => true) true fuel 23 cs = some x) :
    ∃ (ps : List (List UInt8)) (v : Value), cs = [v] ∧ Ls ps v W ∧ ps.length + 1 ≤ Rows.uptoBulk x.1 ∧ ps.flatten.length ≤ Rows.uptoBulk x.1 := by
  rcases open_int_rows Tryd.underlying23 Tryd.underlying22 Tryd.underlying5 cellsBs cellsU8 hf with ⟨hcs, hx⟩ | ⟨a, len, cap, A, L, C, Z, hcs, _, hl, hm, hx, hcell⟩
  · subst hcs
    exact ⟨[], _, rfl, ⟨none, 0, rfl, fun h => absurd h (by decide)⟩, blk_one _, Nat.zero_le _⟩
  · subst hcs
    have hpl : ((List.range len).map fun r => ub ((Z r).take (L r))).length = len := by simp
    have hb : Rows.uptoBulk x.1 = Rows.uptoBulkAll ((List.range len).map fun r => (intRow .u8 (A r) (L r) (Z r) : DataW H)) + Rows.uptoBulkAll ((List.range (cap - len)).map fun j => (intRow .u8 (A (len + j)) (L (len + j)) (Z (len + j)) : DataW H)) + 1 := by rw [hx, Rows.uptoBulk]
    refine ⟨(List.range len).map fun r => ub ((Z r).take (L r)), _, rfl, ⟨some a, cap, by rw [hpl], fun h0 => ?_⟩, ?_, ?_⟩
    · rw [hpl] at h0
      obtain ⟨b, off, spot⟩ := a
      have hspot : spot = none := by simpa [Addr.add] using World.cell?_spot (hcell 0 (by omega)).1
      subst hspot
      refine ⟨b, off, rfl, World.block_lt_of_cell? W _ (by have := (hcell 0 (by omega)).1; simpa [Addr.add] using this), fun i hi => ?_⟩
      rw [hpl] at hi
      obtain ⟨q1, q2, q3, q4, q5, q6, q7⟩ := hcell i (by omega)
      rw [Go.WideShapes.add_plain] at q1
      refine ⟨_, q1, ?_⟩
      have e : (((List.range len).map fun r => ub ((Z r).take (L r))).getD i []) = ub ((Z i).take (L i)) := by simp [hi]
      rw [e]
      have hlt : (ub ((Z i).take (L i))).length = L i := by rw [ub_length, List.length_take]; omega
      have hb1 : ∀ z ∈ Z i, 0 ≤ z ∧ z < 256 := fun z hz' => by have := bounds_u8 (q5 z hz'); omega
      have hb2 : ∀ z ∈ (Z i).take (L i), 0 ≤ z ∧ z < 256 := fun z hz' => hb1 z (List.mem_of_mem_take hz')
      refine ⟨A i, C i, by rw [hlt], by rw [hlt]; exact q2, fun h1 => ?_⟩
      rw [hlt] at h1
      cases hA : A i with
      | none => have := q6 hA; omega
      | some a' =>
        obtain ⟨_, hc⟩ := q7 a' hA
        obtain ⟨b', off', rfl, hc'⟩ := ints_at (zs := Z i) (fun j hj => hc j (by omega)) (by omega)
        refine ⟨b', off', rfl, World.block_lt_of_cell? W ⟨b', off' + 0, none⟩ (hc' 0 (by omega)), fun j hj => ?_⟩
        rw [hlt] at hj
        rw [hc' j (by omega), ub_bz _ hb2 j (by rw [List.length_take]; omega)]
        simp [List.getD_eq_getElem?_getD, hj]
    · have := blk_len ((List.range len).map fun r => (intRow .u8 (A r) (L r) (Z r) : DataW H))
      rw [hpl, hb]
      simp at this
      omega
    · have hs := blk_sum (fun r => (if r < cap then intRow .u8 (A r) (L r) (Z r) else .nil : DataW H)) (fun r => if r < cap then ub ((Z r).take (L r)) else []) (fun r => by
        by_cases hr : r < cap
        · obtain ⟨q1, q2, q3, q4, q5, q6, q7⟩ := hcell r hr
          rw [if_pos hr, if_pos hr]
          exact row_len (A r) (L r) (C r) (Z r) q4 q2 q6
        · rw [if_neg hr, if_neg hr]
          exact Nat.zero_le _) (List.range len)
      have e1 : ((List.range len).map fun r => if r < cap then ub ((Z r).take (L r)) else []) = (List.range len).map fun r => ub ((Z r).take (L r)) := List.map_congr_left (fun r hr => by rw [if_pos (by have := List.mem_range.1 hr; omega)])
      have e2 : ((List.range len).map fun r => (if r < cap then intRow .u8 (A r) (L r) (Z r) else .nil : DataW H)) = (List.range len).map fun r => (intRow .u8 (A r) (L r) (Z r) : DataW H) := List.map_congr_left (fun r hr => by rw [if_pos (by have := List.mem_range.1 hr; omega)])
      rw [e1, e2] at hs
      rw [hb]
      omega
theorem cellsSh : Tryd.prog.cellsOf 25 = 4 := by kernel_rfl
set_option maxRecDepth 100000 in
theorem open_shape {H : Type} {enc : TypeId × Value → H} {W : World} {r : Reach} {b0 : Nat} {v : Value} {d : DataW H} {p : List MemPlace}
    (hv : Value.okWide Tryd.prog W r b0 25 v) (h : DataW.Trod enc Tryd.prog W 0 (fun _ => true) true 25 v d p) :
    ∃ (s : Shp) (u : V4), v = v4 u ∧ Sh s u W ∧ s.2.1.length ≤ Rows.uptoBulk d ∧ s.2.2.1.length ≤ Rows.uptoBulk d ∧ s.2.2.2.length + 1 ≤ Rows.uptoBulk d ∧ s.2.2.2.flatten.length ≤ Rows.uptoBulk d := by
  obtain ⟨cs, rfl, _⟩ := okWide_struct Tryd.underlying25 hv
  obtain ⟨fuel, hf0⟩ := h
  obtain ⟨xs, n, rfl, hx, hl, hlen, hf⟩ := DataW.trod_struct Tryd.underlying25 hf0
  match xs, hlen with
  | [y0, y1, y2, y3], _ =>
    have f0 := hf 0 _ rfl
    have f1 := hf 1 _ rfl
    have f2 := hf 2 _ rfl
    have f3 := hf 3 _ rfl
    rw [cellsSh] at hl
    have ec : (Value.agg cs).cells.toList = cs.toList := rfl
    rw [ec] at hl f0 f1 f2 f3
    obtain ⟨l⟩ := cs
    match l, hl with
    | [c0, c1, c2, c3], _ =>
      simp only [List.getElem?_cons_zero, List.getElem?_cons_succ] at f0 f1 f2 f3
      obtain ⟨k, e0, _⟩ := DataW.trod_int Tryd.underlying3 f0
      obtain ⟨b1, v1, e1, ht1, hb1⟩ := Pk.text_of f1
      obtain ⟨b2, v2, e2, ht2, hb2⟩ := Pk.text_of f2
      obtain ⟨ps, v3, e3, ht3, hb3, hb4⟩ := texts_of f3
      injection e0 with e0 _
      injection e1 with e1 _
      injection e2 with e2 _
      injection e3 with e3 _
      subst e0 e1 e2 e3
      have hd : d = _ := congrArg Prod.fst hx
      have hB : Rows.uptoBulk d = Rows.uptoBulk y0.1 + (Rows.uptoBulk y1.1 + (Rows.uptoBulk y2.1 + (Rows.uptoBulk y3.1 + 0))) + 1 := by
        rw [hd, Rows.uptoBulk]
        rfl
      refine ⟨(k, b1, b2, ps), (.int .i64 k, c1, c2, c3), rfl, ⟨rfl, Pk.Ty_sl ht1, Pk.Ty_sl ht2, ht3⟩, ?_, ?_, ?_, ?_⟩
      all_goals dsimp only; omega
end Rs
end Go.Proofs.YtcgimjlmihaegaaDoor
