/- Rows of routes that are written place by place; a list with one taken out. -/
import Derived.Test.YtdcbgldelfhohabPackE
import Derived.Test.YtdcbgldelfhohabPackA
import Derived.Test.YtdcbgldelfhohabPackD
import Derived.Lib.AppendZeros
import Derived.Below
import Derived.Lib.SlBytesConst
namespace Go.Proofs.Ytdcbgldelfhohab
namespace Tr
open Nb Go.RowKit
theorem c2_set : ∀ (L : Rt) (i : Nat) (a b : By), i < L.length → c2 (L.set i (a, b)) = ((c2 L).set (i * 2) (.string (st a))).set (i * 2 + 1) (.string (st b))
  | [], i, _, _, h => absurd h (by simp)
  | r :: L, 0, a, b, _ => rfl
  | r :: L, i + 1, a, b, h => by
    have ih := c2_set L i a b (by simpa using h)
    show [_, _] ++ c2 (L.set i (a, b)) = _
    rw [ih]
    have e1 : (i + 1) * 2 = i * 2 + 1 + 1 := by omega
    rw [e1]
    rfl
theorem c2_take : ∀ (L : Rt) (m : Nat), (c2 L).take (m * 2) = c2 (L.take m)
  | [], m => by simp [c2]
  | r :: L, 0 => by simp [c2]
  | r :: L, m + 1 => by
    have ih := c2_take L m
    have e1 : (m + 1) * 2 = m * 2 + 1 + 1 := by omega
    rw [e1]
    show (_ :: _ :: (c2 L)).take (m * 2 + 1 + 1) = _ :: _ :: c2 (L.take m)
    rw [List.take_succ_cons, List.take_succ_cons, ih]
/-- The list while one is taken out: up to i moved. -/
def Lst (l : Rt) (i0 i : Nat) : Rt := (l.eraseIdx i0).take i ++ l.drop i
theorem Lst_len {l : Rt} {i0 i : Nat} (h0 : i0 < l.length) (hi : i < l.length) : (Lst l i0 i).length = l.length := by
  unfold Lst
  rw [List.length_append, List.length_take, List.length_drop, List.length_eraseIdx, if_pos h0]
  omega
theorem Lst_start {l : Rt} {i0 : Nat} (h0 : i0 < l.length) : Lst l i0 i0 = l := by
  unfold Lst
  rw [List.eraseIdx_eq_take_drop_succ, List.take_append_of_le_length (by rw [List.length_take]; omega), List.take_take, Nat.min_self, List.take_append_drop]
theorem Lst_get {l : Rt} {i0 i j : Nat} (h0 : i0 < l.length) (hi : i < l.length) (hj : i ≤ j) : (Lst l i0 i).getD j n2 = l.getD j n2 := by
  have hlen : ((l.eraseIdx i0).take i).length = i := by rw [List.length_take, List.length_eraseIdx, if_pos h0]; omega
  unfold Lst
  rw [List.getD_eq_getElem?_getD, List.getD_eq_getElem?_getD, List.getElem?_append_right (by omega), hlen, List.getElem?_drop]
  congr 2
  omega
theorem Lst_step {l : Rt} {i0 i : Nat} (h0 : i0 ≤ i) (hi : i + 1 < l.length) : (Lst l i0 i).set i (l.getD (i + 1) n2) = Lst l i0 (i + 1) := by
  have hlen : ((l.eraseIdx i0).take i).length = i := by rw [List.length_take, List.length_eraseIdx, if_pos (by omega)]; omega
  apply List.ext_getElem?
  intro k
  unfold Lst
  rw [List.getElem?_set]
  have hlen2 : ((l.eraseIdx i0).take (i + 1)).length = i + 1 := by rw [List.length_take, List.length_eraseIdx, if_pos (by omega)]; omega
  by_cases hk : i = k
  · subst hk
    have hlt : i < ((l.eraseIdx i0).take i ++ l.drop i).length := by rw [List.length_append, hlen, List.length_drop]; omega
    rw [if_pos rfl, if_pos hlt, List.getElem?_append_left (by omega), List.getElem?_take, if_pos (by omega), List.getElem?_eraseIdx, if_neg (by omega), List.getD_eq_getElem?_getD, List.getElem?_eq_getElem hi]
    rfl
  · rw [if_neg hk]
    rcases Nat.lt_or_ge k i with h | h
    · rw [List.getElem?_append_left (by omega), List.getElem?_append_left (by omega), List.getElem?_take, List.getElem?_take, if_pos h, if_pos (by omega)]
    · rw [List.getElem?_append_right (by omega), List.getElem?_append_right (by omega), hlen, hlen2, List.getElem?_drop, List.getElem?_drop]
      congr 1
      omega
theorem Lst_end {l : Rt} {i0 : Nat} (x : By × By) (h0 : i0 < l.length) : ((Lst l i0 (l.length - 1)).set (l.length - 1) x).take (l.length - 1) = l.eraseIdx i0 := by
  have hlen : (l.eraseIdx i0).length = l.length - 1 := by rw [List.length_eraseIdx, if_pos h0]
  have hlen2 : ((l.eraseIdx i0).take (l.length - 1)).length = l.length - 1 := by rw [List.length_take, hlen, Nat.min_self]
  unfold Lst
  rw [List.set_append_right _ _ (by omega), List.take_append_of_le_length (by omega), List.take_take, Nat.min_self, List.take_of_length_le (by omega)]
theorem filter_erase : ∀ (l : Rt) (p : By) (i0 : Nat), Srt l → i0 < l.length → (l.getD i0 n2).1 = p → l.filter (fun r => decide (r.1 ≠ p)) = l.eraseIdx i0
  | [], _, _, _, h, _ => absurd h (by simp)
  | r :: l, p, 0, hs, _, h => by
    have hs' : (∀ x ∈ l, less r.1 x.1) ∧ Srt l := List.pairwise_cons.1 hs
    have h : r.1 = p := h
    rw [List.filter_cons, if_neg (by simp [h]), List.eraseIdx_cons_zero, List.filter_eq_self]
    intro x hx
    exact decide_eq_true (fun e => less_irrefl p (by have := hs'.1 x hx; rwa [h, e] at this))
  | r :: l, p, i + 1, hs, hi, h => by
    have hs' : (∀ x ∈ l, less r.1 x.1) ∧ Srt l := List.pairwise_cons.1 hs
    have hi' : i < l.length := by simpa using hi
    have h' : (l.getD i n2).1 = p := h
    have hm : l.getD i n2 ∈ l := by rw [List.getD_eq_getElem?_getD, List.getElem?_eq_getElem hi']; exact List.getElem_mem hi'
    have hne : r.1 ≠ p := fun e => less_irrefl p (by have := hs'.1 _ hm; rwa [e, h'] at this)
    rw [List.filter_cons, if_pos (by simp [hne]), List.eraseIdx_cons_succ, filter_erase l p i hs'.2 hi' h']
theorem filter_none {l : Rt} {p : By} (h : ∀ j, j < l.length → (l.getD j n2).1 ≠ p) : l.filter (fun r => decide (r.1 ≠ p)) = l := by
  rw [List.filter_eq_self]
  intro x hx
  obtain ⟨i, hi, rfl⟩ := List.mem_iff_getElem.1 hx
  have := h i hi
  rw [List.getD_eq_getElem?_getD, List.getElem?_eq_getElem hi] at this
  exact decide_eq_true this
end Tr
end Go.Proofs.Ytdcbgldelfhohab
/- slices.DeleteFunc of routes, by their path. -/
namespace Go.Proofs.Ytdcbgldelfhohab
namespace Tr
open Nb Go.RowKit
theorem srt_ne {l : Rt} (hs : Srt l) {i j : Nat} (hi : i < l.length) (hj : j < l.length) (hne : j ≠ i) : (l.getD j n2).1 ≠ (l.getD i n2).1 := by
  have h := List.pairwise_iff_getElem.1 hs
  rw [List.getD_eq_getElem?_getD, List.getD_eq_getElem?_getD, List.getElem?_eq_getElem hi, List.getElem?_eq_getElem hj]
  rcases Nat.lt_or_ge j i with k | k
  · intro e
    have e : l[j].1 = l[i].1 := e
    have := h j i hj hi k
    rw [e] at this
    exact less_irrefl _ this
  · intro e
    have e : l[j].1 = l[i].1 := e
    have := h i j hi hj (by omega)
    rw [e] at this
    exact less_irrefl _ this
theorem first_at (p : By) : ∀ l : Rt, ∃ i, i ≤ l.length ∧ (∀ j, j < i → (l.getD j n2).1 ≠ p) ∧ (i < l.length → (l.getD i n2).1 = p)
  | [] => ⟨0, Nat.le_refl _, fun j hj => absurd hj (by omega), fun h => absurd h (by simp)⟩
  | (q, v) :: r => by
    by_cases e : q = p
    · exact ⟨0, Nat.zero_le _, fun j hj => absurd hj (by omega), fun _ => e⟩
    · obtain ⟨i, h1, h2, h3⟩ := first_at p r
      refine ⟨i + 1, by simpa using h1, fun j hj => ?_, fun h => h3 (by simpa using h)⟩
      cases j with
      | zero => exact e
      | succ j => exact h2 j (by omega)
end Tr
end Go.Proofs.Ytdcbgldelfhohab
/- Routes, one put: what is left, joined by the new one, in order. -/
namespace Go.Proofs.Ytdcbgldelfhohab
namespace Tr
open Nb Go.RowKit
/-- l2 has what l has, but y at p. -/
structure RPs (l : Rt) (p y : By) (l2 : Rt) : Prop where
  hs : Srt l2
  hp : Pts l2
  hv : VO l2
  hk : ∀ q, lk l2 q = if q = p then y else lk l q
/-- The routes but p's, and behind them the new one. -/
def rpm (l : Rt) (p y : By) : Rt := l.filter (fun r => decide (r.1 ≠ p)) ++ (if y = [] then [] else [(p, y)])
theorem rpm_mem {l : Rt} {p y : By} {r : By × By} : r ∈ rpm l p y ↔ (r ∈ l ∧ r.1 ≠ p) ∨ (y ≠ [] ∧ r = (p, y)) := by
  unfold rpm
  rw [List.mem_append, List.mem_filter]
  by_cases h : y = []
  · simp [h]
  · simp [h]
theorem less_ne {a b : By} (h : less a b) : a ≠ b := fun e => less_irrefl b (e ▸ h)
theorem rpm_keys {l : Rt} (hs : Srt l) (p y : By) : (rpm l p y).Pairwise fun a b => a.1 ≠ b.1 := by
  unfold rpm
  rw [List.pairwise_append]
  refine ⟨(hs.imp fun h => less_ne h).filter _, ?_, fun a ha b hb => ?_⟩
  · by_cases h : y = []
    · simp [h]
    · simp [h]
  · have h1 := (List.mem_filter.1 ha).2
    have h2 : a.1 ≠ p := of_decide_eq_true h1
    by_cases h : y = []
    · simp [h] at hb
    · simp [h] at hb
      rw [hb]
      exact h2
theorem rp_spec {l l2 : Rt} {p y : By} (hs : Srt l) (hp : Pts l) (hv : VO l) (hpt : Pt p) (hm : l2.Perm (rpm l p y)) (ho : l2.Pairwise fun a b => ¬ less b.1 a.1) : RPs l p y l2 := by
  have hk : l2.Pairwise fun a b => a.1 ≠ b.1 := (hm.pairwise_iff (fun h e => h e.symm)).2 (rpm_keys hs p y)
  have hS : Srt l2 := (ho.and hk).imp fun ⟨h1, h2⟩ => by
    rcases less_total _ _ with h | h | h
    · exact h
    · exact absurd h h2
    · exact absurd h h1
  have hmem : ∀ r, r ∈ l2 ↔ (r ∈ l ∧ r.1 ≠ p) ∨ (y ≠ [] ∧ r = (p, y)) := fun r => hm.mem_iff.trans rpm_mem
  refine ⟨hS, fun r hr => ?_, fun r hr => ?_, fun q => ?_⟩
  · rcases (hmem r).1 hr with h | h
    · exact hp r h.1
    · rw [h.2]; exact hpt
  · rcases (hmem r).1 hr with h | h
    · exact hv r h.1
    · rw [h.2]; exact h.1
  · by_cases e : q = p
    · subst e
      rw [if_pos rfl]
      by_cases hy : y = []
      · rw [hy]
        refine lk_out _ _ (fun r hr e => ?_)
        rcases (hmem r).1 hr with h | h
        · exact h.2 e
        · exact h.1 hy
      · exact lk_mem l2 (q, y) hS ((hmem _).2 (.inr ⟨hy, rfl⟩))
    · rw [if_neg e]
      by_cases hq : ∃ r ∈ l, r.1 = q
      · obtain ⟨r, hr, rfl⟩ := hq
        rw [lk_mem l r hs hr]
        exact lk_mem l2 r hS ((hmem r).2 (.inl ⟨hr, e⟩))
      · rw [lk_out l q (fun r hr h => hq ⟨r, hr, h⟩)]
        refine lk_out _ _ (fun r hr h => ?_)
        rcases (hmem r).1 hr with h2 | h2
        · exact hq ⟨r, h2.1, h⟩
        · rw [h2.2] at h; exact e h.symm
/-- The two puts are one. -/
theorem put_same {t t' : Nd} {l l2 : Rt} {p y : By} {n : Nat} (hl : rt t = some l) (h : RPs l p y l2) (hr : Rs t') (hu : ∀ q, gt t' q = if q = p then y else gt t q) (hn : ∀ r ∈ l2, r.1.length < n) : bn t' = bn (grow n l2) := by
  obtain ⟨g1, g2⟩ := grow_spec n l2 hn h.hs h.hp h.hv
  refine uniq hr _ g1 (fun q => ?_)
  rw [hu q, g2 q, h.hk q, (rt_spec hl).2.2 q]
end Tr
end Go.Proofs.Ytdcbgldelfhohab
/- lampbearerref.routePut, over what slices.SortFunc does. -/
namespace Go.Proofs.Ytdcbgldelfhohab
namespace Tr
open Nb Go.RowKit

end Tr
end Go.Proofs.Ytdcbgldelfhohab
/- tree.Right; the law TreeRights. -/
namespace Go.Proofs.Ytdcbgldelfhohab
namespace Tr
open Nb Go.RowKit
/-- A node in its box. -/
structure NB (h : Nat) (u : V4) (t : Nd) (lo : Nat) (W wx : World) : Prop where
  bx : Bx h u wx
  n : Nv (· < lo) wx t u
  l : lo ≤ wx.heap.size
  b : Below W.heap.size W wx
theorem NB_below {h : Nat} {u : V4} {t : Nd} {lo : Nat} {W wx w2 : World} (k : NB h u t lo W wx) (b : Below wx.heap.size wx w2) : NB h u t lo W w2 := ⟨Bx_below k.bx b, Nv_below k.n b, Nat.le_trans k.l b.size, k.b.trans (b.mono k.b.size)⟩
theorem NB_new {u : V4} {t : Nd} {lo : Nat} {w : World} (hn : Nv (· < lo) w t u) (hl : lo ≤ w.heap.size) : NB w.heap.size u t lo w (w.alloc (.cells #[u.1, u.2.1, u.2.2.1, u.2.2.2] 25)) := by
  have b : Below w.heap.size w (w.alloc (.cells #[u.1, u.2.1, u.2.2.1, u.2.2.2] 25)) := (Below.refl _ _).alloc (Nat.le_refl _) _
  exact ⟨Bx_new w u, Nv_below hn b, Nat.le_trans hl b.size, b⟩
set_option maxHeartbeats 1000000 in
set_option maxRecDepth 100000 in
theorem right_any (t : Nd) (lo : Nat) (x : V4) (w : World) (hx : Nv (· < lo) w t x) (hlo : lo ≤ w.heap.size) (hw : wn t ≤ 4194304) :
    Calls Try.prog 11 #[v4 x] w fun e w' => e = .returned (.bool (rd 0 t)) ∧ Below w.heap.size w w' := by
  obtain ⟨k, a1, n1, c1, a2, m2, c2, a3, n3, c3, rfl⟩ := Nv_form hx
  have N0 := NB_new hx hlo
  obtain ⟨_, q0, q1, q2, q3⟩ := N0.bx
  dsimp only at q0 q1 q2 q3
  have KR : Hid (∀ wx : World, NB w.heap.size (.int .i64 k, .slice a1 n1 c1, .slice a2 m2 c2, .slice a3 n3 c3) t lo w wx → Calls Try.prog 17 #[.agg #[.int .i64 k, .slice a1 n1 c1, .slice a2 m2 c2, .slice a3 n3 c3], .int .i64 0] wx fun e w' => ∃ y, e = .returned (.tuple #[y, .bool (rd 0 t)]) ∧ Below wx.heap.size wx w') := fun wx hn => by
    refine ((read_all lo (wf_any t)).1 0 (.int .i64 k, .slice a1 n1 c1, .slice a2 m2 c2, .slice a3 n3 c3) wx (by omega) hn.n hn.l hw).mono fun e w' he => ?_
    obtain ⟨y, h1, _, h3⟩ := he
    exact ⟨y, h1, h3⟩
  have HN : Hid (NB w.heap.size (.int .i64 k, .slice a1 n1 c1, .slice a2 m2 c2, .slice a3 n3 c3) t lo w (w.alloc (.cells #[.int .i64 k, .slice a1 n1 c1, .slice a2 m2 c2, .slice a3 n3 c3] 25))) := N0
  clear N0 hx hlo hw
  show Calls Try.prog _ #[.agg #[.int .i64 k, .slice a1 n1 c1, .slice a2 m2 c2, .slice a3 n3 c3]] w _
  generalize rd 0 t = r at *
  go_enter Try.func11, Try.ntmps11
  go_wp2_with fail
  refine (KR.out _ HN.out).mono ?_
  rintro e w1 ⟨y, rfl, hb1⟩
  have HZ : Hid (Below w.heap.size w w1) := HN.out.b.trans (hb1.mono HN.out.b.size)
  clear hb1
  go_wp2_with fail
  go_ret
  exact ⟨rfl, HZ.out⟩
theorem rd_gr (t : Nd) : rd 0 t = gr t := by rw [Bool.eq_iff_iff, rd_right, gr_right]
end Tr
end Go.Proofs.Ytdcbgldelfhohab
/- tree.Get and lampbearerref.GGet, whole. -/
namespace Go.Proofs.Ytdcbgldelfhohab
namespace Tr
open Nb Go.RowKit
/-- What a value asked for by its key is answered with. -/
def gans (t : Nd) (b : By) : By × Int := if rd 0 t = true then (if b.length ≤ 32 then (gt t (hv b), 0) else ([], 3)) else ([], 1)
theorem gans_form {t : Nd} {b : By} (h : rd 0 t = false) : gans t b = ([], 1) := by
  unfold gans
  rw [h]; rfl
theorem gans_key {t : Nd} {b : By} (h : rd 0 t = true) (hk : ¬ b.length ≤ 32) : gans t b = ([], 3) := by
  unfold gans
  rw [if_pos h, if_neg hk]
theorem gans_val {t : Nd} {b : By} (h : rd 0 t = true) (hk : b.length ≤ 32) : gans t b = (gt t (hv b), 0) := by
  unfold gans
  rw [if_pos h, if_pos hk]
theorem gt_len {t : Nd} (h : Right t) (q : By) : (gt t q).length ≤ 1024 := by
  by_cases e : gt t q = []
  · rw [e]; exact Nat.zero_le _
  · exact (h.2 q e).2.2.2
theorem get_any (t : Nd) (lo : Nat) (x : V4) (w : World) (hx : Nv (· < lo) w t x) (hlo : lo ≤ w.heap.size) (hw : wn t ≤ 4194304) (b : By) (kv : Value) (hb : Bs (· < lo) b kv w) :
    Calls Try.prog 10 #[v4 x, kv] w fun e w' => (∃ a c, e = .returned (.tuple #[.slice a (gans t b).1.length c, .int .i64 (gans t b).2]) ∧ Bs (Sb lo w') (gans t b).1 (.slice a (gans t b).1.length c) w') ∧ Below w.heap.size w w' := by
  obtain ⟨k, a1, n1, c1, a2, m2, c2, a3, n3, c3, rfl⟩ := Nv_form hx
  obtain ⟨ak, ck, rfl, hck⟩ := Bs_form hb
  have KR : ∀ wx : World, Below w.heap.size w wx → Calls Try.prog 17 #[.agg #[.int .i64 k, .slice a1 n1 c1, .slice a2 m2 c2, .slice a3 n3 c3], .int .i64 0] wx (RP lo 0 t wx) := fun wx h => (read_all lo (wf_any t)).1 0 (.int .i64 k, .slice a1 n1 c1, .slice a2 m2 c2, .slice a3 n3 c3) wx (by omega) (Nv_below hx h) (Nat.le_trans hlo h.size) hw
  cases hr : rd 0 t with
  | false =>
    rw [gans_form hr]
    refine (get_form k a1 a2 a3 ak n1 c1 m2 c2 n3 c3 b.length ck w (fun wx h => (KR wx h).mono fun e w' he => ?_)).mono fun e w' he => ?_
    · obtain ⟨y, h1, _, h3⟩ := he
      rw [hr] at h1
      exact ⟨y, h1, h3⟩
    · exact ⟨⟨none, 0, he.1, Bs_nil _ _⟩, he.2⟩
  | true =>
    by_cases hk : b.length ≤ 32
    · rw [gans_val hr hk]
      have hR := (rd_right t).1 hr
      refine get_value k a1 a2 a3 ak n1 c1 m2 c2 n3 c3 b.length ck w lo (gt t (hv b)) (hv b) t (fun y => w.heap.size ≤ y) (fun wx h => (KR wx h).mono fun e w' he => ?_) hk (fun wx h => ?_) (fun ty yy kv wx hin hkv => ?_) (fun v wx hv => ?_)
      · obtain ⟨y, h1, h2, h3⟩ := he
        rw [hr] at h1
        exact ⟨y, h1, In_mono (h2 hr) (fun z hz => Nat.le_trans h.size hz), h3⟩
      · exact halves_bs (Bs_below hb h) (by omega)
      · exact get_all lo _ t _ _ _ _ wx (Nat.le_refl _) hin hR.1 hkv (pt_hv b)
      · refine (clone_bs hv (by have := gt_len hR (Nb.hv b); omega)).mono fun e w' he => ?_
        obtain ⟨v, h1, h2, h3⟩ := he
        obtain ⟨a, c, rfl, _⟩ := Bs_form h2
        exact ⟨a, c, h1, Bs_mono h2 (fun k hk _ => .inr hk.2), h3⟩
    · rw [gans_key hr hk]
      refine (get_key k a1 a2 a3 ak n1 c1 m2 c2 n3 c3 b.length ck w (fun wx h => (KR wx h).mono fun e w' he => ?_) hk).mono fun e w' he => ?_
      · obtain ⟨y, h1, _, h3⟩ := he
        rw [hr] at h1
        exact ⟨y, h1, h3⟩
      · exact ⟨⟨none, 0, he.1, Bs_nil _ _⟩, he.2⟩
theorem lk_find (q : By) : ∀ l : Rt, ∃ i, i ≤ l.length ∧ (∀ j, j < i → (l.getD j n2).1 ≠ q) ∧ (i < l.length → (l.getD i n2).1 = q ∧ (l.getD i n2).2 = lk l q) ∧ (i = l.length → lk l q = [])
  | [] => ⟨0, Nat.le_refl _, fun j hj => absurd hj (by omega), fun h => absurd h (by simp), fun _ => rfl⟩
  | (p, v) :: r => by
    by_cases e : q = p
    · refine ⟨0, Nat.zero_le _, fun j hj => absurd hj (by omega), fun _ => ?_, fun h => by simp at h⟩
      rw [lk, if_pos e]
      exact ⟨e.symm, rfl⟩
    · obtain ⟨i, h1, h2, h3, h4⟩ := lk_find q r
      rw [lk, if_neg e]
      refine ⟨i + 1, by simpa using h1, fun j hj => ?_, fun h => h3 (by simpa using h), fun h => h4 (by simpa using h)⟩
      cases j with
      | zero => exact fun h => e h.symm
      | succ j => exact h2 j (by omega)
end Tr
end Go.Proofs.Ytdcbgldelfhohab
/- lampbearerref.GPut at every argument, and the law TreePuts: over what slices.SortFunc does. -/
namespace Go.Proofs.Ytdcbgldelfhohab
namespace Tr
open Nb Go.RowKit
mutual
theorem bn_bn : ∀ t : Nd, bn (bn t) = bn t
  | .mk k p v ks => by
    have ih := bns_bns ks
    by_cases h1 : k = 1
    · subst h1; simp [bn]
    by_cases h2 : k = 2
    · subst h2; simp [bn, ih]
    by_cases h3 : k = 3
    · subst h3; simp [bn, ih]
    simp [bn, h1, h2, h3]
theorem bns_bns : ∀ l : List Nd, bns (bns l) = bns l
  | [] => by simp [bns]
  | t :: r => by simp [bns, bn_bn t, bns_bns r]
end
/-- The reference's answer to a put. -/
def GR2 (t : Nd) (b y : By) (r : Nd) : Prop := if pe t b y = 0 then ∃ l l2, rt t = some l ∧ RPs l (hv b) y l2 ∧ r = grw l2 ∧ ∀ q ∈ l2, q.1.length < 65 else r = Nd.no
theorem put_eq {t : Nd} {b y : By} {r s : Nd} (h1 : PR t b y r) (h2 : GR2 t b y s) : sn r s = true := by
  rw [sn_bn]
  unfold PR at h1
  unfold GR2 at h2
  by_cases h : pe t b y = 0
  · rw [if_pos h] at h1 h2
    obtain ⟨t', rfl, hr, hu⟩ := h1
    obtain ⟨l, l2, hl, hp, rfl, hn⟩ := h2
    rw [bn_bn]
    exact put_same hl hp hr hu hn
  · rw [if_neg h] at h1 h2
    rw [h1, h2]
theorem rps_short {l l2 : Rt} {p y : By} (h : RPs l p y l2) (hl : ∀ r ∈ l, r.1.length ≤ 64) (hp : p.length ≤ 64) : ∀ r ∈ l2, r.1.length < 65 := fun r hr => by
  have h1 := lk_mem l2 r h.hs hr
  have h2 := h.hv r hr
  rw [h.hk] at h1
  by_cases e : r.1 = p
  · rw [e]; omega
  · rw [if_neg e] at h1
    obtain ⟨r', hr', e'⟩ := lk_in (l := l) (q := r.1) (by rw [h1]; exact h2)
    have := hl r' hr'
    rw [← e']
    omega
end Tr
end Go.Proofs.Ytdcbgldelfhohab
/- What many puts come to. -/
namespace Go.Proofs.Ytdcbgldelfhohab
namespace Tr
open Nb Go.RowKit
/-- The first error of many puts. -/
def oe : Rt → Int
  | [] => 0
  | r :: l => if mp r.1.length r.2.length = 0 then oe l else mp r.1.length r.2.length
/-- What is at a path behind many puts. -/
def vl (l : Rt) : By → By := l.foldl (fun f r q => if q = hv r.1 then r.2 else f q) (fun _ => [])
/-- What Of answers. -/
def OR (l : Rt) (r : Nd) : Prop := if oe l = 0 then ∃ t', r = bn t' ∧ Rs t' ∧ ∀ q, gt t' q = vl l q else r = Nd.no
theorem vl_snoc (l : Rt) (r : By × By) (q : By) : vl (l ++ [r]) q = if q = hv r.1 then r.2 else vl l q := by
  unfold vl
  rw [List.foldl_append]
  rfl
theorem vl_in (l : Rt) : ∀ q, vl l q ≠ [] → ∃ r ∈ l, q = hv r.1 ∧ vl l q = r.2 := by
  have h : ∀ m (f : By → By) q, (m.foldl (fun f r q => if q = hv r.1 then r.2 else f q) f) q = f q ∨ ∃ r ∈ (m : Rt), q = hv r.1 ∧ (m.foldl (fun f r q => if q = hv r.1 then r.2 else f q) f) q = r.2 := by
    intro m
    induction m with
    | nil => intro f q; exact .inl rfl
    | cons a m ih =>
      intro f q
      rw [List.foldl_cons]
      rcases ih (fun q => if q = hv a.1 then a.2 else f q) q with h | ⟨r, h1, h2, h3⟩
      · by_cases e : q = hv a.1
        · exact .inr ⟨a, List.mem_cons_self .., e, by rw [h, if_pos e]⟩
        · exact .inl (by rw [h, if_neg e])
      · exact .inr ⟨r, List.mem_cons_of_mem _ h1, h2, h3⟩
  intro q hq
  rcases h l (fun _ => []) q with h | h
  · exact absurd h hq
  · exact h
theorem oe_zero : ∀ l : Rt, (∀ r ∈ l, mp r.1.length r.2.length = 0) → oe l = 0
  | [], _ => rfl
  | r :: l, h => by
    rw [oe, if_pos (h r (List.mem_cons_self ..))]
    exact oe_zero l (fun x hx => h x (List.mem_cons_of_mem _ hx))
theorem oe_zero' : ∀ l : Rt, oe l = 0 → ∀ r ∈ l, mp r.1.length r.2.length = 0
  | a :: l, h, r, hr => by
    rw [oe] at h
    split at h
    · rcases List.mem_cons.1 hr with rfl | hr
      · assumption
      · exact oe_zero' l h r hr
    · exact absurd h (by assumption)
/-- The first one that fails tells. -/
theorem oe_at : ∀ (l : Rt) (k : Nat), k < l.length → (∀ r ∈ l.take k, mp r.1.length r.2.length = 0) → mp (l.getD k n2).1.length (l.getD k n2).2.length ≠ 0 → oe l = mp (l.getD k n2).1.length (l.getD k n2).2.length
  | a :: l, 0, _, _, h => by rw [List.getD_cons_zero] at *; rw [oe, if_neg h]
  | a :: l, k + 1, hk, hz, h => by
    rw [List.getD_cons_succ] at *
    rw [oe, if_pos (hz a (by simp))]
    exact oe_at l k (by simpa using hk) (fun r hr => hz r (by simp [hr])) h
theorem take_snoc (l : Rt) (k : Nat) (h : k < l.length) : l.take (k + 1) = l.take k ++ [l.getD k n2] := by
  rw [List.take_add_one, List.getElem?_eq_getElem h, List.getD_eq_getElem?_getD, List.getElem?_eq_getElem h]
  rfl
theorem vl_ln {l : Rt} (h : ∀ r ∈ l, mp r.1.length r.2.length = 0) : (∀ q, vl l q ≠ [] → q.length ≤ 64) ∧ ∀ q, (vl l q).length ≤ 1024 := by
  refine ⟨fun q hq => ?_, fun q => ?_⟩
  · obtain ⟨r, h1, h2, _⟩ := vl_in l q hq
    have := (mp_zero (h r h1)).1
    rw [h2, hv_len]; omega
  · by_cases hq : vl l q = []
    · rw [hq]; exact Nat.zero_le _
    · obtain ⟨r, h1, _, h3⟩ := vl_in l q hq
      rw [h3]
      exact (mp_zero (h r h1)).2
end Tr
end Go.Proofs.Ytdcbgldelfhohab
/- lampbearerref.GPairs; both sides at every argument. -/
namespace Go.Proofs.Ytdcbgldelfhohab
namespace Tr
open Nb Go.RowKit
theorem wpList_ap {ops : Array Oper} {rest : List Oper} {o : Oper} {a : Act} {Q : Exit → Act → World → Prop} {s x : Operand} {t u : TypeId} {v v2 v' : Value} {w w' : World} (hgd : o.guard = none) (ho : o.op = .call { callee := .builtin .append, args := #[s, x], argTypes := #[t, u] }) (hs : a.eval s = v) (hx : a.eval x = v2)
    (hr : (Builtin.append_ #[t, u] o.type #[v, v2]).run Try.prog w = .ok v' w') (h : wpList Try.prog ops Q rest (a.put o.dst v') w') : wpList Try.prog ops Q (o :: rest) a w :=
  wpList_plain hgd fun _ hK => wp_ap ho hs hx hr (hK _ _ h)
/-- What stands behind k rounds of GPairs. -/
structure GQ (l : Rt) (W0 : World) (k : Nat) (ov : Value) (wr : World) : Prop where
  o : Po W0.heap.size ((l.take k).map jp) ov wr
  b : Below W0.heap.size W0 wr
end Tr
end Go.Proofs.Ytdcbgldelfhohab
/- slices.Grow of nothing, and slices.Concat, of pairs. -/
namespace Go.Proofs.Ytdcbgldelfhohab
namespace Tr
open Nb Go.RowKit
theorem c6_app (x y : List S6) : c6 (x ++ y) = c6 x ++ c6 y := by unfold c6; rw [List.map_append, c2p_app]
theorem c6_one (l : List S6) : ∀ u ∈ c6 l, u.oneCell' = true := fun u hu => by
  unfold c6 c2p at hu
  obtain ⟨r, hr, h⟩ := List.mem_flatMap.1 hu
  obtain ⟨s, _, rfl⟩ := List.mem_map.1 hr
  rcases List.mem_cons.1 h with rfl | h
  · rfl
  rcases List.mem_cons.1 h with rfl | h
  · rfl
  · cases h
/-- A slice of pairs whose cells are xs. -/
def V6 (xs : List S6) (v : Value) (w : World) : Prop := ∃ (ao : Option Addr) (cap : Nat), v = .slice ao xs.length cap ∧ (0 < xs.length → ∃ g off, ao = some ⟨g, off, none⟩ ∧ g < w.heap.size ∧ ∀ j, j < xs.length * 2 → w.cell? ⟨g, off + j, none⟩ = (c6 xs)[j]?)
theorem V6_below {xs : List S6} {v : Value} {w w' : World} (h : V6 xs v w) (hb : Below w.heap.size w w') : V6 xs v w' := by
  obtain ⟨ao, cap, h1, h3⟩ := h
  refine ⟨ao, cap, h1, fun h0 => ?_⟩
  obtain ⟨g, off, h4, h5, h6⟩ := h3 h0
  exact ⟨g, off, h4, Nat.lt_of_lt_of_le h5 hb.size, fun j hj => (hb.cell (p := ⟨g, off + j, none⟩) h5).trans (h6 j hj)⟩
def V6s (xss : List (List S6)) (v : Value) (w : World) : Prop := ∃ (ao : Option Addr) (cap : Nat), v = .slice ao xss.length cap ∧ (0 < xss.length → ∃ g off, ao = some ⟨g, off, none⟩ ∧ g < w.heap.size ∧ ∀ i, i < xss.length → ∃ vi, w.cell? ⟨g, off + i, none⟩ = some vi ∧ V6 (xss.getD i []) vi w)
theorem V6s_below {xss : List (List S6)} {v : Value} {w w' : World} (h : V6s xss v w) (hb : Below w.heap.size w w') : V6s xss v w' := by
  obtain ⟨ao, cap, h1, h2⟩ := h
  refine ⟨ao, cap, h1, fun h0 => ?_⟩
  obtain ⟨g, off, h3, h4, h5⟩ := h2 h0
  refine ⟨g, off, h3, Nat.lt_of_lt_of_le h4 hb.size, fun i hi => ?_⟩
  obtain ⟨vi, h6, h7⟩ := h5 i hi
  exact ⟨vi, (hb.cell (p := ⟨g, off + i, none⟩) h4).trans h6, V6_below h7 hb⟩
def pv6 (xss : List (List S6)) (k : Nat) : List S6 := (xss.take k).flatten
theorem pv6_succ (xss : List (List S6)) (k : Nat) (h : k < xss.length) : pv6 xss (k + 1) = pv6 xss k ++ xss.getD k [] := by
  unfold pv6
  rw [List.take_succ_eq_append_getElem h, List.flatten_append]
  simp [h]
theorem pv6_le (xss : List (List S6)) (k : Nat) : (pv6 xss k).length ≤ xss.flatten.length := by
  unfold pv6
  conv => rhs; rw [← List.take_append_drop k xss, List.flatten_append, List.length_append]
  omega
theorem app6 {base : Nat} {xs ys : List S6} {v vb : Value} {w : World} (ty : TypeId) (h : w.ownsRow base 41 2 v xs.length (c6 xs)) (hb : V6 ys vb w) (hbase : base ≤ w.heap.size) (hlen : xs.length + ys.length ≤ 4194304) :
    ∃ v' w', (Builtin.append_ #[36, 36] ty #[v, vb]).run Try.prog w = .ok v' w' ∧ w'.ownsRow base 41 2 v' (xs ++ ys).length (c6 (xs ++ ys)) ∧ Below base w w' := by
  obtain ⟨i0, hi, hz0, hz1, hz2⟩ := info_parts infoPr
  obtain ⟨ao, cap, rfl, vw⟩ := hb
  by_cases h0 : 0 < ys.length
  · obtain ⟨g, off, rfl, hg, hc⟩ := vw h0
    obtain ⟨v', w', hr, ho, hgr, _⟩ := run_append_own (P := Try.prog) w base 36 ty 41 i0 _ 2 48 Try.underlying36 hi hz0 hz1 hz2 rfl (by decide) v xs.length (c6 xs) h ⟨g, off, none⟩ ys.length cap (c6 ys) (c6_len ys)
      (fun j u hj => by
        have hj' : j < ys.length * 2 := by have := (List.getElem?_eq_some_iff.1 hj).1; rwa [c6_len] at this
        rw [Ct.add_lit, hc j hj', hj]) (c6_one ys) (by unfold maxLen; omega) (by omega) hbase
    refine ⟨v', w', hr, by rw [List.length_append, c6_app]; exact ho, (Below.refl _ _).grown hgr hbase (fun k hk => (Ct.own_lo h k hk).1)⟩
  · have e : ys = [] := List.length_eq_zero_iff.1 (by omega)
    subst e
    rw [List.append_nil]
    refine ⟨v, w, ?_, h, Below.refl _ _⟩
    have hs : Src Try.prog i0.size 36 (.slice ao 0 cap) 0 [] w := by
      cases ao with
      | none => exact Src.ofNil w Try.underlying36 cap
      | some ad => exact Src.ofSlice w Try.underlying36 ad 0 cap [] (by simp) (fun j u hj => by simp at hj) (fun u hu => by cases hu)
    rcases h.2 with ⟨h3, h4⟩ | ⟨g', cap', cur, h3, h5⟩
    · subst h3
      exact run_append_nothing w 36 36 ty 41 i0 Try.underlying36 hi none 0 0 (Nat.le_refl _) _ hs
    · subst h3
      exact run_append_nothing w 36 36 ty 41 i0 Try.underlying36 hi _ _ _ h5.2.2.1 _ hs
def zPr : Value := .agg #[.slice none 0 0, .slice none 0 0]
set_option maxHeartbeats 400000 in
set_option maxRecDepth 100000 in
theorem grow6 (n : Nat) (hn : Hid (n ≤ 4194304)) (w : World) :
    Calls Try.prog 28 #[.slice none 0 0, .int .i64 (n : Int)] w fun e w' => ∃ v, e = .returned v ∧ w'.ownsRow w.heap.size 41 2 v 0 [] ∧ Below w.heap.size w w' := by
  have hww : wrap64 (n : Int) = n := by have := hn.out; unfold wrap64; omega
  have hn0 : decide ((n : Int) < 0) = false := decide_eq_false (by omega)
  by_cases h0 : n = 0
  · subst h0
    go_enter Try.func28, Try.ntmps28
    go_wp2
    go_ret
    exact ⟨_, rfl, World.ownsRow_nil _ _ _ _, Below.refl _ _⟩
  · obtain ⟨i0, hi, hz0, hz1, hz2⟩ := info_parts infoPr
    have hap := Lib.run_append_nil_zeros (P := Try.prog) w 36 3 36 41 i0 zPr .i64 .i64 Try.underlying36 Try.underlying3 hi hz0 n (by omega) (by omega) (by have := hn.out; omega) (by have := hn.out; rw [hz2]; omega)
    have hge := grownCap_ge w n 0 41
    have hle := grownCap_le_maxLen w n 0 41 (by have := hn.out; unfold maxLen; omega)
    generalize grownCap w n 0 41 = C at hap hge hle
    have hsz : (Builtin.zeroCells zPr.cells n ++ Builtin.zeroCells zPr.cells (C - n)).size = C * 2 := by
      have hz : zPr.cells.size = 2 := rfl
      simp only [Array.size_append, size_zeroCells, hz]
      omega
    have HO : Hid ((w.drew.alloc (.cells (Builtin.zeroCells zPr.cells n ++ Builtin.zeroCells zPr.cells (C - n)) 41)).ownsRow w.heap.size 41 2 (.slice (some ⟨w.heap.size, 0, none⟩) 0 C) 0 []) := ⟨rfl, .inr ⟨w.heap.size, C, _, rfl, Nat.le_refl _, heap_alloc_new w.drew _, Nat.zero_le _, hle, hsz, by rw [Nat.zero_mul]; rfl⟩⟩
    have HB : Hid (Below w.heap.size w (w.drew.alloc (.cells (Builtin.zeroCells zPr.cells n ++ Builtin.zeroCells zPr.cells (C - n)) 41))) := (Below.refl _ _).drew.alloc (Nat.le_refl _) _
    generalize w.drew.alloc (.cells (Builtin.zeroCells zPr.cells n ++ Builtin.zeroCells zPr.cells (C - n)) 41) = W1 at hap HO HB
    have p0 : (0 : Int) < (n : Int) := by omega
    have p1 : (n : Int) ≤ (C : Int) := by omega
    clear hsz hi hz0 hz1 hz2 hle
    go_enter Try.func28, Try.ntmps28
    go_upto_region 5 with fail
    simp only [hww]
    go_wp2_with (at_builtin; refine wpList_ap rfl rfl rfl rfl hap ?_)
    go_ret
    exact ⟨_, rfl, HO.out, HB.out⟩
set_option maxHeartbeats 2000000 in
set_option maxRecDepth 100000 in
theorem concat6 (xss : List (List S6)) (v : Value) (w : World) (hx : Hid (xss.flatten.length ≤ 1048576)) (hn : Hid (xss.length ≤ 1048576)) (h : V6s xss v w) :
    Calls Try.prog 14 #[v] w fun e w' => ∃ v', e = .returned v' ∧ w'.ownsRow w.heap.size 41 2 v' xss.flatten.length (c6 xss.flatten) ∧ Below w.heap.size w w' := by
  have HL : Hid (V6s xss v w) := h
  obtain ⟨ao, cap, rfl, hL⟩ := h
  clear hL
  obtain ⟨n, en⟩ : ∃ n, n = xss.length := ⟨_, rfl⟩
  rw [← en] at HL hn ⊢
  have EN : Hid (n = xss.length) := en
  clear en
  have HE : Hid (pv6 xss n = xss.flatten) := by
    show _ = _
    unfold pv6
    rw [EN.out, List.take_length]
  have KG : Hid (∀ w : World, Calls Try.prog 28 #[.slice none 0 0, .int .i64 ((pv6 xss n).length : Int)] w fun e w' => ∃ v, e = .returned v ∧ w'.ownsRow w.heap.size 41 2 v 0 [] ∧ Below w.heap.size w w') := fun w => grow6 _ (by have := pv6_le xss n; have := hx.out; show _ ≤ _; omega) w
  go_enter Try.func14, Try.ntmps14
  go_wp2_with fail
  go_loopw [3, 11] (fun sz i wr => ∃ k : Nat, k ≤ n ∧ i = .int .i64 (k : Int) ∧ sz = .int .i64 ((pv6 xss k).length : Int) ∧ w = wr) (fun _ i _ => ((n : Int) - intOf i).toNat)
  case atStart => exact ⟨0, Nat.zero_le _, rfl, rfl, rfl⟩
  case round =>
    obtain ⟨k, hk, rfl, rfl, rfl⟩ := hrel
    by_cases hlt : k < n
    · have en := EN.out
      obtain ⟨ao2, cap2, e2, hL2⟩ := HL.out
      obtain ⟨gp, op, hao, hgp, hcell⟩ := hL2 (by omega)
      obtain ⟨vi, c1, hvl⟩ := hcell k (by omega)
      have hao2 : ao = some ⟨gp, op, none⟩ := by
        rw [← hao]
        injection e2
      subst hao2
      obtain ⟨ai, ci, rfl, _⟩ := hvl
      have hsum : (pv6 xss (k + 1)).length = (pv6 xss k).length + (xss.getD k []).length := by rw [pv6_succ xss k (by omega), List.length_append]
      have hpl := pv6_le xss (k + 1)
      have hx2 := hx.out
      have hw1 : Hid (wrap64 (((pv6 xss k).length : Int) + ((xss.getD k []).length : Int)) = ((pv6 xss (k + 1)).length : Int)) := by show _ = _; unfold wrap64; omega
      have hw := Ct.step_w k n hlt hn
      have d0 : (k : Int) < (n : Int) := by omega
      have d1 : (0 : Int) ≤ (k : Int) := by omega
      have d2 : decide (((pv6 xss (k + 1)).length : Int) < 0) = false := decide_eq_false (by omega)
      clear hsum hpl hx2 hcell hL2 e2 hao en hgp
      generalize (xss.getD k []).length = li at *
      obtain ⟨s2, e3⟩ : ∃ s2, s2 = (pv6 xss (k + 1)).length := ⟨_, rfl⟩
      rw [← e3] at hw1 d2
      have HS2 : Hid (s2 = (pv6 xss (k + 1)).length) := e3
      clear e3
      generalize (pv6 xss k).length = s1 at *
      have hw2 := hw1.out
      go_wp2_with fail
      go_roundw
      case rel => first | exact ⟨k + 1, hlt, Ct.step_v k _ hw.out, (by rw [← HS2.out]; first | rfl | rw [hw1.out]), trivial⟩ | exact ⟨k + 1, hlt, Ct.step_v k _ hw.out, (by rw [← HS2.out]; first | rfl | rw [hw1.out]), rfl⟩ | ((repeat apply Exists.intro); exact ⟨⟨k + 1, hlt, Ct.step_v k _ hw.out, (by rw [← HS2.out]; first | rfl | rw [hw1.out]), rfl⟩, rfl⟩)
      case measure => exact Ct.msr k n hlt _ hw.out
    · have ek : k = n := by omega
      subst ek
      have d0 : decide ((k : Int) < (k : Int)) = false := decide_eq_false (by omega)
      go_wp2_with fail
      refine (KG.out _).mono (fun e w2 he => ?_)
      obtain ⟨v2, rfl, o2, b2⟩ := he
      clear d0 KG
      go_wp2_with fail
      go_loopw [6, 27] (fun vn i wr => ∃ j : Nat, j ≤ k ∧ i = .int .i64 (j : Int) ∧ wr.ownsRow w.heap.size 41 2 vn (pv6 xss j).length (c6 (pv6 xss j)) ∧ Below w.heap.size w wr) (fun _ i _ => ((k : Int) - intOf i).toNat)
      case atStart => exact ⟨0, Nat.zero_le _, rfl, o2, b2⟩
      case round =>
        clear o2 b2
        obtain ⟨j, hj, rfl, oj, bj⟩ := hrel
        by_cases hlt2 : j < k
        · have en := EN.out
          obtain ⟨ao2, cap2, e2, hL2⟩ := V6s_below HL.out bj
          obtain ⟨gp, op, hao, hgp, hcell⟩ := hL2 (by omega)
          obtain ⟨vi, c1, hvl⟩ := hcell j (by omega)
          have hao2 : ao = some ⟨gp, op, none⟩ := by
            rw [← hao]
            injection e2
          subst hao2
          have hs1 := pv6_succ xss j (by omega)
          have hpl := pv6_le xss (j + 1)
          rw [hs1, List.length_append] at hpl
          obtain ⟨v3, w3, hap, o3, b3⟩ := app6 36 oj hvl bj.size (by have := hx.out; omega)
          rw [← hs1] at o3
          have HO : Hid (w3.ownsRow w.heap.size 41 2 v3 (pv6 xss (j + 1)).length (c6 (pv6 xss (j + 1)))) := o3
          have HB : Hid (Below w.heap.size w w3) := bj.trans b3
          have hw := Ct.step_w j k hlt2 hn
          have d0 : (j : Int) < (k : Int) := by omega
          have d1 : (0 : Int) ≤ (j : Int) := by omega
          clear hs1 hpl hcell hL2 e2 hao en hgp hvl o3 b3 oj bj
          go_wp2_with (at_builtin; refine wpList_ap rfl rfl rfl rfl hap ?_)
          go_roundw
          case rel => exact ⟨j + 1, hlt2, Ct.step_v j _ hw.out, HO.out, HB.out⟩
          case measure => exact Ct.msr j k hlt2 _ hw.out
        · have ej : j = k := by omega
          subst ej
          have HO : Hid (wr.ownsRow w.heap.size 41 2 u6 (pv6 xss j).length (c6 (pv6 xss j))) := oj
          have HB : Hid (Below w.heap.size w wr) := bj
          have d0 : decide ((j : Int) < (j : Int)) = false := decide_eq_false (by omega)
          clear oj bj
          go_wp2
          go_ret
          exact ⟨_, rfl, by have := HO.out; rw [HE.out] at this; exact this, HB.out⟩
end Tr
end Go.Proofs.Ytdcbgldelfhohab
/- A region that draws its order: values that stand fast whatever the order, new blocks that come whenever, and behind all these the rest, one behind the other. -/
namespace Go.Proofs.Ytdcbgldelfhohab
namespace RN
open RI RS Go.RowKit
variable {P : Program} {ops : Array Oper} {Q : Exit → Act → World → Prop}
def StepB (P : Program) (ops : Array Oper) (S : World → Prop) (o : Oper) (v : Value) (a : Act) : Prop :=
  (Region.wanted o (yielded ops a.tmps) = true ∧ ∀ (K : Value → World → Prop) w, S w → (∀ w', Below w.heap.size w w' → K v w') → upv P K ((execOp a.eval o).run P w)) ∨
  (Region.wanted o (yielded ops a.tmps) = false ∧ v = undef)
def SeqB (P : Program) (ops : Array Oper) (S : World → Prop) (E : Act → Prop) : List Oper → Act → Prop
  | [], a => E a
  | o :: r, a => ∃ v, StepB P ops S o v a ∧ SeqB P ops S E r (a.put o.dst v)
/-- A value that is a new block. -/
def pv (g : Nat) : Value := .pointer (some ⟨g, 0, none⟩)
def Vg (V : Nat → Value) (p : Nat) (γ : Nat → Nat) (j : Nat) : Value := if j < p then V j else pv (γ j)
theorem seqB_vals {S : World → Prop} {E : Act → Prop} (a : Act) : ∀ (l : List Oper) (m : Nat) (V : Nat → Value), (∀ j o, l[j]? = some o → ops[m + j]? = some o) → SeqB P ops S E l (fr ops V tt a m) →
    ∃ V', (∀ j, j < m → V' j = V j) ∧ (∀ j o, l[j]? = some o → StepB P ops S o (V' (m + j)) (fr ops V' tt a (m + j))) ∧ E (fr ops V' tt a (m + l.length))
  | [], m, V, _, h => ⟨V, fun _ _ => rfl, fun j o hj => by simp at hj, by simpa [SeqB] using h⟩
  | o :: r, m, V, hl, h => by
    obtain ⟨v, h1, h2⟩ := h
    have hkm : ops[m]? = some o := by simpa using hl 0 o rfl
    have frV : ∀ V1 V2 : Nat → Value, ∀ n, (∀ j, j < n → V1 j = V2 j) → fr ops V1 tt a n = fr ops V2 tt a n := by
      intro V1 V2 n
      induction n with
      | zero => intro _; rfl
      | succ n ih => intro hv; rw [fr, fr, ih (fun j hj => hv j (by omega)), hv n (by omega)]
    let W : Nat → Value := fun j => if j = m then v else V j
    have hW : fr ops W tt a (m + 1) = (fr ops V tt a m).put o.dst v := by
      rw [fr, frV W V m (fun j hj => by simp only [W]; rw [if_neg (by omega)])]
      simp [tt, hkm, W]
    rw [← hW] at h2
    obtain ⟨V', e1, e2, e3⟩ := seqB_vals a r (m + 1) W (fun j o' hj => by have := hl (j + 1) o' (by simpa using hj); rwa [show m + (j + 1) = m + 1 + j by omega] at this) h2
    refine ⟨V', fun j hj => ?_, fun j o' hj => ?_, ?_⟩
    · rw [e1 j (by omega)]; simp only [W]; rw [if_neg (by omega)]
    · cases j with
      | zero =>
        have : o' = o := by simpa using hj.symm
        subst this
        rw [Nat.add_zero, e1 m (by omega), frV V' V m (fun j hj => by rw [e1 j (by omega)]; simp only [W]; rw [if_neg (by omega)])]
        simpa [W] using h1
      | succ j => rw [show m + (j + 1) = m + 1 + j by omega]; exact e2 j o' (by simpa using hj)
    · rw [show m + (o :: r).length = m + 1 + r.length by simp; omega]; exact e3
theorem fr_V (a : Act) (d : Nat → Bool) (V1 V2 : Nat → Value) : ∀ n, (∀ j, j < n → d j = true → V1 j = V2 j) → fr ops V1 d a n = fr ops V2 d a n
  | 0, _ => rfl
  | n + 1, h => by
    rw [fr, fr, fr_V a d V1 V2 n (fun j hj => h j (by omega))]
    cases hd : d n with
    | false => simp
    | true => rw [h n (by omega) hd]
/-- The law. S and Y last; the first p in the text's order by their values; p to q new blocks; the rest as a list. -/
theorem wp_region_new {id : Nat} {a : Act} {w : World} (S : World → Prop) (Y : Nat → World → Prop) (p q : Nat) (hS : ∀ w1 w2, S w1 → Below w1.heap.size w1 w2 → S w2) (hY : ∀ g w1 w2, Y g w1 → Below w1.heap.size w1 w2 → Y g w2) (hYl : ∀ g w, Y g w → g < w.heap.size)
    (hm : P.follows .mixedOrders = true) (hok : okOps ops = true) (hpq : p ≤ q) (hq : q ≤ ops.size) (ht : tailOk ops q = true) (h0 : S w.drew)
    (hN : ∀ j o, p ≤ j → j < q → ops[j]? = some o → o.guard = none ∧ ∀ (ρ : Operand → Value) (K : Value → World → Prop) w, S w → (∀ w', Below w.heap.size w w' → Y w.heap.size w' → K (pv w.heap.size) w') → upv P K ((execOp ρ o).run P w))
    (hs : SeqB P ops S (fun a' => ∀ (γ : Nat → Nat) w', S w' → (∀ j, p ≤ j → j < q → Y (γ j) w') → (∀ i j, p ≤ i → i < j → j < q → γ i ≠ γ j) → ∀ V : Nat → Value, (∀ j, p ≤ j → V j = pv (γ j)) → wpList P ops Q (ops.toList.drop q) ((List.range (q - p)).foldl (fun x j => x.put ((ops[p + j]?).bind (·.dst)) (V (p + j))) a') w') (ops.toList.take p) a) : (Code.region id ops true).wp P Q a w := by
  have hok' := hok
  unfold okOps at hok'
  rw [Bool.and_eq_true] at hok'
  obtain ⟨he, hp⟩ := hok'
  have hlen : (ops.toList.take p).length = p := by simp; omega
  obtain ⟨V, _, hst, hE⟩ := seqB_vals (P := P) (ops := ops) (S := S) a (ops.toList.take p) 0 (fun _ => undef) (fun j o hj => by
    rw [List.getElem?_take] at hj
    split at hj
    · simpa using hj
    · cases hj) hs
  simp only [Nat.zero_add] at hst hE
  rw [hlen] at hE
  have pair : ∀ (i j : Nat) (x y : Oper) (t : Nat), ops[i]? = some x → ops[j]? = some y → y.dst = some t → (x.dst = some t → i = j) ∧ (t ∈ x.looksAt ops → (j < i ∧ bindsOn x j = true) ∨ (i < j ∧ bindsOn y i = true)) := by
    intro i j x y t hx hy ht
    have hi : i < ops.size := (Array.getElem?_eq_some_iff.1 hx).1
    have hj : j < ops.size := (Array.getElem?_eq_some_iff.1 hy).1
    have h1 := List.all_eq_true.1 hp i (List.mem_range.2 hi)
    rw [Bool.and_eq_true] at h1
    have h2 := List.all_eq_true.1 h1.2 j (List.mem_range.2 hj)
    unfold pairOk at h2
    simp only [hx, hy, ht] at h2
    simp at h2
    refine ⟨fun e => h2.1.resolve_left (fun h => h e), fun hm => ?_⟩
    rcases h2.2 with (h | h) | h
    · exact absurd hm h
    · exact .inl h
    · exact .inr h
  have nosel : ∀ (i : Nat) (x : Oper) cs b, ops[i]? = some x → x.op ≠ .select cs b := by
    intro i x cs b hx hc
    have hi : i < ops.size := (Array.getElem?_eq_some_iff.1 hx).1
    have h1 := List.all_eq_true.1 hp i (List.mem_range.2 hi)
    rw [Bool.and_eq_true, hx] at h1
    simp [hc, isSel] at h1
  have tailb : ∀ (d : Nat → Bool) (j : Nat), q ≤ j → j < ops.size → may ops d j → ∀ i, i < j → d i = true := by
    intro d j hkj hj hmay i hij
    have h1 := List.all_eq_true.1 ht j (List.mem_range.2 hj)
    rw [Bool.or_eq_true, Array.getElem?_eq_getElem hj] at h1
    rcases h1 with h1 | h1
    · rw [decide_eq_true_eq] at h1; omega
    · simp only [Option.map_some, Option.getD_some] at h1
      obtain ⟨e, e1, e2, e3⟩ := bindsOn_spec (List.all_eq_true.1 h1 i (List.mem_range.2 hij))
      have h2 := hmay.2 _ (Array.getElem?_eq_getElem hj)
      rw [Array.all_eq_true_iff_forall_mem] at h2
      have h3 := h2 e e1
      rw [e2, e3] at h3
      simpa using h3
  let J1 : (Nat → Bool) → Act → World → Prop := fun d x wx => ∃ γ : Nat → Nat, x = fr ops (Vg V p γ) d a ops.size ∧ S wx ∧ (∀ j, p ≤ j → j < q → d j = true → Y (γ j) wx) ∧ (∀ i j, p ≤ i → i < q → p ≤ j → j < q → i ≠ j → d i = true → d j = true → γ i ≠ γ j) ∧ (∀ j o, ops[j]? = some o → d j = true → ∀ e, e ∈ o.after → Region.binds .any e = true → d e.on = true) ∧ (∀ j, q ≤ j → d j = false) ∧ ∃ j, j < q ∧ d j = false
  let J2 : (Nat → Bool) → Act → World → Prop := fun d x wx => ∃ m, q ≤ m ∧ (∀ j, d j = decide (j < m)) ∧ wpList P ops Q (ops.toList.drop m) x wx
  have foldfr : ∀ (V' : Nat → Value) n, (List.range n).foldl (fun x j => x.put ((ops[p + j]?).bind (·.dst)) (V' (p + j))) (fr ops V' tt a p) = fr ops V' tt a (p + n) := by
    intro V' n
    induction n with
    | zero => rfl
    | succ n ih => rw [List.range_succ, List.foldl_append, ih]; rfl
  have enter : ∀ d x wx (γ : Nat → Nat), x = fr ops (Vg V p γ) d a ops.size → S wx → (∀ j, p ≤ j → j < q → Y (γ j) wx) → (∀ i j, p ≤ i → i < j → j < q → γ i ≠ γ j) → (∀ j, q ≤ j → d j = false) → (∀ j, j < q → d j = true) → J2 d x wx := by
    intro d x wx γ hx hSw hYw hdist hf htr
    refine ⟨q, Nat.le_refl _, fun j => ?_, ?_⟩
    · by_cases hj : j < q
      · rw [htr j hj, decide_eq_true hj]
      · rw [hf j (by omega), decide_eq_false hj]
    · have key : ∀ n, q ≤ n → fr ops (Vg V p γ) d a n = fr ops (Vg V p γ) tt a q := by
        intro n
        induction n with
        | zero => intro h; have : q = 0 := by omega
                  subst this; rfl
        | succ n ih =>
          intro h
          by_cases hn : q ≤ n
          · rw [fr, hf n hn, ih hn]; simp
          · have : q = n + 1 := by omega
            subst this
            exact fr_congr _ a d tt (n + 1) (fun j hj => htr j hj)
      have h1 := hE γ wx hSw hYw hdist (Vg V p γ) (fun j hj => by unfold Vg; rw [if_neg (by omega)])
      rw [fr_V a tt V (Vg V p γ) p (fun j hj _ => by unfold Vg; rw [if_pos hj]), foldfr, show p + (q - p) = q by omega] at h1
      rw [hx, key ops.size hq]
      exact h1
  refine wp_region_inv (fun d x wx => J1 d x wx ∨ J2 d x wx) hm he ?_ ?_ ?_
  · have hz : ∀ V', fr ops V' (fun _ => false) a ops.size = a := by
      intro V'
      have : ∀ k, fr ops V' (fun _ => false) a k = a := by
        intro k
        induction k with
        | zero => rfl
        | succ k ih => rw [fr, ih]; simp
      exact this _
    by_cases hk0 : q = 0
    · exact .inr (enter _ _ _ (fun _ => 0) (hz _).symm h0 (fun j _ hj => by omega) (fun _ j _ _ hj => by omega) (fun _ _ => rfl) (fun j hj => by omega))
    · exact .inl ⟨fun _ => 0, (hz _).symm, h0, (fun _ _ _ h => by cases h), (fun _ _ _ _ _ _ _ h => by cases h), (fun _ _ _ h => by cases h), (fun _ _ => rfl), 0, by omega, rfl⟩
  · rintro d x wx i (⟨γ, rfl, hI, hYd, hdis, hcl, hfz, j0, hj0, hdj0⟩ | ⟨m, hkm, hd, hw⟩) hi hmay
    · have hik : i < q := by
        rcases Nat.lt_or_ge i q with h | h
        · exact h
        · have := tailb d i h hi hmay j0 (by omega)
          rw [hdj0] at this; cases this
      obtain ⟨o, ho⟩ : ∃ o, ops[i]? = some o := ⟨ops[i], Array.getElem?_eq_getElem hi⟩
      have hdeps : ∀ e, e ∈ o.after → Region.binds .any e = true → d e.on = true := by
        intro e h1 h2
        have := hmay.2 o ho
        rw [Array.all_eq_true_iff_forall_mem] at this
        have := this e h1
        rw [h2] at this
        simpa using this
      have hput : ∀ (V' : Nat → Value) v, v = V' i → (fr ops V' d a ops.size).put o.dst v = fr ops V' (don d i) a ops.size := by
        rintro V' v rfl
        rw [fr_put V' a d i hmay.1 ops.size (fun j hj hne t ht => fun hjt => ?_), if_pos hi, ho]
        · rfl
        · obtain ⟨y, hy⟩ : ∃ y, ops[j]? = some y := ⟨ops[j], Array.getElem?_eq_getElem hj⟩
          rw [hy] at hjt
          rw [ho] at ht
          exact hne ((pair i j o y t ho hy hjt).1 ht).symm
      have hclo : ∀ j o', ops[j]? = some o' → don d i j = true → ∀ e, e ∈ o'.after → Region.binds .any e = true → don d i e.on = true := by
        intro j o' hj hdj e e1 e2
        have : d e.on = true := by
          by_cases hji : j = i
          · subst hji
            rw [ho] at hj
            cases hj
            exact hdeps e e1 e2
          · rw [don_other _ _ _ hji] at hdj
            exact hcl j o' hj hdj e e1 e2
        unfold don; split
        · rfl
        · exact this
      have hnext : ∀ (γ' : Nat → Nat) x w', x = fr ops (Vg V p γ') (don d i) a ops.size → S w' → (∀ j, p ≤ j → j < q → don d i j = true → Y (γ' j) w') → (∀ i' j, p ≤ i' → i' < q → p ≤ j → j < q → i' ≠ j → don d i i' = true → don d i j = true → γ' i' ≠ γ' j) → J1 (don d i) x w' ∨ J2 (don d i) x w' := by
        intro γ' x w' hx hS' hY' hd'
        have hf' : ∀ j, q ≤ j → don d i j = false := fun j hj => by rw [don_other _ _ _ (by omega)]; exact hfz j hj
        by_cases hall : ∀ j, j < q → don d i j = true
        · exact .inr (enter _ _ _ γ' hx hS' (fun j h1 h2 => hY' j h1 h2 (hall j h2)) (fun i' j h1 h2 h3 => hd' i' j h1 (by omega) (by omega) h3 (by omega) (hall i' (by omega)) (hall j h3)) hf' hall)
        · refine .inl ⟨γ', hx, hS', hY', hd', hclo, hf', ?_⟩
          rw [Classical.not_forall] at hall
          obtain ⟨j, hj⟩ := hall
          rw [Classical.not_imp] at hj
          exact ⟨j, hj.1, by simpa using hj.2⟩
      have hdon : ∀ j, j ≠ i → don d i j = true → d j = true := fun j hj h => by rwa [don_other _ _ _ hj] at h
      rcases Nat.lt_or_ge i p with hip | hip
      · have hsame : ∀ t, t ∈ o.looksAt ops → (fr ops (Vg V p γ) d a ops.size).tmps[t]? = (fr ops V tt a i).tmps[t]? := by
          intro t ht
          have := fr_get (ops := ops) (Vg V p γ) a d i t ops.size (fun j hj hjt => by
            obtain ⟨y, hy⟩ : ∃ y, ops[j]? = some y := ⟨ops[j], Array.getElem?_eq_getElem hj⟩
            rw [hy] at hjt
            rcases (pair i j o y t ho hy hjt).2 ht with ⟨h1, h2⟩ | ⟨h1, h2⟩
            · obtain ⟨e, e1, e2, e3⟩ := bindsOn_spec h2
              exact .inl ⟨h1, e3 ▸ hdeps e e1 e2⟩
            · refine .inr ⟨h1, ?_⟩
              cases hdj : d j with
              | false => rfl
              | true =>
                obtain ⟨e, e1, e2, e3⟩ := bindsOn_spec h2
                have := hcl j y hy hdj e e1 e2
                rw [e3, hmay.1] at this; cases this)
          rw [this, show min ops.size i = i by omega, fr_V a tt (Vg V p γ) V i (fun j hj _ => by unfold Vg; rw [if_pos (by omega)])]
        have hex : execOp (fr ops (Vg V p γ) d a ops.size).eval o = execOp (fr ops V tt a i).eval o := by
          refine execOp_congr o (fun cs b => nosel i o cs b ho) (fun x hx => ?_)
          cases x with
          | tmp t => exact eval_get (hsame t (mem_looks hx))
          | _ => rfl
        have hwa := wanted_get hsame
        have hYi : ∀ w', (∀ j, p ≤ j → j < q → d j = true → Y (γ j) w') → ∀ j, p ≤ j → j < q → don d i j = true → Y (γ j) w' := fun w' h j h1 h2 h3 => h j h1 h2 (hdon j (by omega) h3)
        have hdi : ∀ i' j, p ≤ i' → i' < q → p ≤ j → j < q → i' ≠ j → don d i i' = true → don d i j = true → γ i' ≠ γ j := fun i' j h1 h2 h3 h4 h5 h6 h7 => hdis i' j h1 h2 h3 h4 h5 (hdon i' (by omega) h6) (hdon j (by omega) h7)
        have hVi : V i = Vg V p γ i := by unfold Vg; rw [if_pos hip]
        unfold wpOp
        rw [ho]
        simp only
        rcases hst i o (by rw [List.getElem?_take, if_pos hip]; simpa using ho) with ⟨h1, h2⟩ | ⟨h1, h2⟩
        · rw [hwa, h1, if_pos rfl]
          refine .inl ?_
          unfold Oper.wp
          rw [hex]
          exact upv_upon (h2 _ wx hI (fun w' hb => hnext γ _ _ (hput _ _ hVi) (hS _ _ hI hb) (hYi w' (fun j h3 h4 h5 => hY _ _ _ (hYd j h3 h4 h5) hb)) hdi))
        · rw [hwa, h1]
          simp only [Bool.false_eq_true, if_false]
          exact hnext γ _ _ (hput _ _ (h2.symm.trans hVi)) hI (hYi wx hYd) hdi
      · obtain ⟨hg, hrun⟩ := hN i o hip hik ho
        unfold wpOp
        rw [ho]
        simp only
        rw [if_pos (show Region.wanted o (yielded ops (fr ops (Vg V p γ) d a ops.size).tmps) = true by simp [Region.wanted, hg])]
        refine .inl ?_
        unfold Oper.wp
        refine upv_upon (hrun _ _ wx hI (fun w' hb hYn => ?_))
        let γ' : Nat → Nat := fun j => if j = i then wx.heap.size else γ j
        have hγ : ∀ j, j ≠ i → γ' j = γ j := fun j hj => by simp only [γ']; rw [if_neg hj]
        have hγi : γ' i = wx.heap.size := by simp [γ']
        have hfr : fr ops (Vg V p γ) d a ops.size = fr ops (Vg V p γ') d a ops.size := fr_V a d _ _ _ (fun j _ hdj => by
          have hji : j ≠ i := by intro e; subst e; rw [hmay.1] at hdj; cases hdj
          unfold Vg; rw [hγ j hji])
        have hval : pv wx.heap.size = Vg V p γ' i := by unfold Vg; rw [if_neg (by omega), hγi]
        refine hnext γ' _ _ (by rw [hfr]; exact hput _ _ hval) (hS _ _ hI hb) (fun j h1 h2 h3 => ?_) (fun i' j h1 h2 h3 h4 h5 h6 h7 => ?_)
        · by_cases hj : j = i
          · subst hj; rw [hγi]; exact hYn
          · rw [hγ j hj]; exact hY _ _ _ (hYd j h1 h2 (hdon j hj h3)) hb
        · by_cases hj : j = i
          · subst hj
            rw [hγi, hγ i' h5]
            have := hYl _ _ (hYd i' h1 h2 (hdon i' h5 h6))
            omega
          · by_cases hi' : i' = i
            · subst hi'
              rw [hγi, hγ j hj]
              have := hYl _ _ (hYd j h3 h4 (hdon j hj h7))
              omega
            · rw [hγ i' hi', hγ j hj]; exact hdis i' j h1 h2 h3 h4 h5 (hdon i' hi' h6) (hdon j hj h7)
    · have him : i = m := by
        have h1 : ¬ i < m := by intro h; have := hmay.1; rw [hd, decide_eq_true h] at this; cases this
        have h2 : ¬ m < i := by
          intro h
          have := tailb d i (by omega) hi hmay m h
          rw [hd, decide_eq_false (by omega)] at this; cases this
        omega
      subst him
      have hdr : ops.toList.drop i = ops[i] :: ops.toList.drop (i + 1) := by
        rw [List.drop_eq_getElem_cons (by simpa using hi)]; simp
      rw [hdr] at hw
      have key : ∀ x' w', wpList P ops Q (ops.toList.drop (i + 1)) x' w' → J1 (don d i) x' w' ∨ J2 (don d i) x' w' := fun x' w' h => .inr ⟨i + 1, by omega, fun j => by
        by_cases hj : j = i
        · subst hj; rw [don_same, decide_eq_true (by omega)]
        · rw [don_other _ _ _ hj, hd, decide_eq_decide]; omega, h⟩
      refine wpOp_mono key ?_
      unfold wpOp
      rw [Array.getElem?_eq_getElem hi]
      exact hw
  · rintro d x wx (⟨_, _, _, _, _, _, _, j, hj, hdj⟩ | ⟨m, hkm, hd, hw⟩) hall
    · have := hall j (by omega)
      rw [hdj] at this; cases this
    · have : ops.size ≤ m := by
        rcases Nat.lt_or_ge m ops.size with h | h
        · have := hall m h
          rw [hd, decide_eq_false (by omega)] at this; cases this
        · exact h
      rw [List.drop_eq_nil_of_le (by simpa using this)] at hw
      exact hw
theorem go1 {S : World → Prop} {E : Act → Prop} {o : Oper} {r : List Oper} {a a' : Act} {v : Value} (hg : o.guard = none)
    (h : ∀ (K : Value → World → Prop) w, S w → (∀ w', Below w.heap.size w w' → K v w') → upv P K ((execOp a.eval o).run P w)) (he : a.put o.dst v = a')
    (hr : SeqB P ops S E r a') : SeqB P ops S E (o :: r) a :=
  ⟨v, .inl ⟨by simp [Region.wanted, hg], h⟩, he ▸ hr⟩
theorem go1g {S : World → Prop} {E : Act → Prop} {o : Oper} {r : List Oper} {a a' : Act} {v : Value} (hg : Region.wanted o (yielded ops a.tmps) = true)
    (h : ∀ (K : Value → World → Prop) w, S w → (∀ w', Below w.heap.size w w' → K v w') → upv P K ((execOp a.eval o).run P w)) (he : a.put o.dst v = a')
    (hr : SeqB P ops S E r a') : SeqB P ops S E (o :: r) a :=
  ⟨v, .inl ⟨hg, h⟩, he ▸ hr⟩
theorem go0 {S : World → Prop} {E : Act → Prop} {o : Oper} {r : List Oper} {a a' : Act} (hg : Region.wanted o (yielded ops a.tmps) = false) (he : a.put o.dst undef = a')
    (hr : SeqB P ops S E r a') : SeqB P ops S E (o :: r) a := ⟨undef, .inr ⟨hg, rfl⟩, he ▸ hr⟩
theorem go_end {S : World → Prop} {E : Act → Prop} {a : Act} (h : E a) : SeqB P ops S E [] a := h
theorem seqB_mono {S : World → Prop} {E E' : Act → Prop} (h : ∀ a, E a → E' a) : ∀ (l : List Oper) (a : Act), SeqB P ops S E l a → SeqB P ops S E' l a
  | [], _, hs => h _ hs
  | _ :: r, _, hs => by obtain ⟨v, h1, h2⟩ := hs; exact ⟨v, h1, seqB_mono h r _ h2⟩
/-- The law with one new block, s its slot. -/
theorem wp_region_new1 {id : Nat} {a : Act} {w : World} (S : World → Prop) (Y : Nat → World → Prop) (p s : Nat) (hS : ∀ w1 w2, S w1 → Below w1.heap.size w1 w2 → S w2) (hY : ∀ g w1 w2, Y g w1 → Below w1.heap.size w1 w2 → Y g w2) (hYl : ∀ g w, Y g w → g < w.heap.size)
    (hm : P.follows .mixedOrders = true) (hok : okOps ops = true) (hq : p + 1 ≤ ops.size) (ht : tailOk ops (p + 1) = true) (h0 : S w.drew) (hd : (ops[p]?).bind (·.dst) = some s)
    (hN : ∀ o, ops[p]? = some o → o.guard = none ∧ ∀ (ρ : Operand → Value) (K : Value → World → Prop) w, S w → (∀ w', Below w.heap.size w w' → Y w.heap.size w' → K (pv w.heap.size) w') → upv P K ((execOp ρ o).run P w))
    (hs : SeqB P ops S (fun a' => ∀ g w', S w' → Y g w' → wpList P ops Q (ops.toList.drop (p + 1)) (a'.put (some s) (.pointer (some ⟨g, 0, none⟩))) w') (ops.toList.take p) a) : (Code.region id ops true).wp P Q a w := by
  refine wp_region_new S Y p (p + 1) hS hY hYl hm hok (by omega) hq ht h0 (fun j o h1 h2 ho => ?_) (seqB_mono (fun a' h => ?_) _ _ hs)
  · have : j = p := by omega
    subst this; exact hN o ho
  · intro γ w' hSw hYw _ V hV
    have := h (γ p) w' hSw (hYw p (Nat.le_refl _) (by omega))
    rw [show p + 1 - p = 1 by omega]
    simp only [List.range_succ, List.range_zero, List.nil_append, List.foldl_cons, List.foldl_nil, Nat.add_zero]
    rw [hd, hV p (Nat.le_refl _)]
    exact this
/-- With two, s and t their slots. -/
theorem wp_region_new2 {id : Nat} {a : Act} {w : World} (S : World → Prop) (Y : Nat → World → Prop) (p s t : Nat) (hS : ∀ w1 w2, S w1 → Below w1.heap.size w1 w2 → S w2) (hY : ∀ g w1 w2, Y g w1 → Below w1.heap.size w1 w2 → Y g w2) (hYl : ∀ g w, Y g w → g < w.heap.size)
    (hm : P.follows .mixedOrders = true) (hok : okOps ops = true) (hq : p + 2 ≤ ops.size) (ht : tailOk ops (p + 2) = true) (h0 : S w.drew) (hd : (ops[p]?).bind (·.dst) = some s) (hd2 : (ops[p + 1]?).bind (·.dst) = some t)
    (hN : ∀ j o, j = p ∨ j = p + 1 → ops[j]? = some o → o.guard = none ∧ ∀ (ρ : Operand → Value) (K : Value → World → Prop) w, S w → (∀ w', Below w.heap.size w w' → Y w.heap.size w' → K (pv w.heap.size) w') → upv P K ((execOp ρ o).run P w))
    (hs : SeqB P ops S (fun a' => ∀ g h w', g ≠ h → S w' → Y g w' → Y h w' → wpList P ops Q (ops.toList.drop (p + 2)) ((a'.put (some s) (.pointer (some ⟨g, 0, none⟩))).put (some t) (.pointer (some ⟨h, 0, none⟩))) w') (ops.toList.take p) a) : (Code.region id ops true).wp P Q a w := by
  refine wp_region_new S Y p (p + 2) hS hY hYl hm hok (by omega) hq ht h0 (fun j o h1 h2 ho => hN j o (by omega) ho) (seqB_mono (fun a' h => ?_) _ _ hs)
  intro γ w' hSw hYw hdis V hV
  have := h (γ p) (γ (p + 1)) w' (hdis p (p + 1) (Nat.le_refl _) (by omega) (by omega)) hSw (hYw p (Nat.le_refl _) (by omega)) (hYw (p + 1) (by omega) (by omega))
  rw [show p + 2 - p = 2 by omega]
  simp only [List.range_succ, List.range_zero, List.nil_append, List.cons_append, List.foldl_cons, List.foldl_nil, Nat.add_zero]
  rw [hd, hd2, hV p (Nat.le_refl _), hV (p + 1) (by omega)]
  exact this
end RN
end Go.Proofs.Ytdcbgldelfhohab
/- A region that draws its order: some values stand fast whatever the order (class 0), some hang on when they come (class 1: new blocks), and the rest come behind all these, one behind the other (class 2). -/
namespace Go.Proofs.Ytdcbgldelfhohab
namespace RG
open RI RS RN Go.RowKit
variable {P : Program} {ops : Array Oper} {Q : Exit → Act → World → Prop}
def cls (ks : List Nat) (j : Nat) : Nat := ks.getD j 2
def updU (U : Nat → Value) (i : Nat) (v : Value) : Nat → Value := fun j => if j = i then v else U j
/-- A step of class 0. -/
def DStep (P : Program) (ops : Array Oper) (I : (Nat → Bool) → (Nat → Value) → World → Prop) (i : Nat) (o : Oper) (v : Value) (a : Act) : Prop :=
  (Region.wanted o (yielded ops a.tmps) = true ∧ ∀ (K : Value → World → Prop) d U w, I d U w → may ops d i → (∀ w', I (don d i) U w' → K v w') → upv P K ((execOp a.eval o).run P w)) ∨
  (Region.wanted o (yielded ops a.tmps) = false ∧ v = undef ∧ ∀ d U w, I d U w → may ops d i → I (don d i) U w)
/-- A step of class 1. -/
def NStep (P : Program) (ops : Array Oper) (I : (Nat → Bool) → (Nat → Value) → World → Prop) (j : Nat) (o : Oper) (a : Act) : Prop :=
  ∀ (K : Value → World → Prop) d U w, I d U w → may ops d j → (∀ v w', I (don d j) (updU U j v) w' → K v w') → upv P K ((execOp a.eval o).run P w)
/-- The walk in the text's order: class 0 by its value, class 1 by its fact. -/
def Walk (P : Program) (ops : Array Oper) (I : (Nat → Bool) → (Nat → Value) → World → Prop) (E : Act → Prop) : Nat → List Oper → List Nat → Act → Prop
  | j, o :: r, k :: ks, a =>
    if k = 0 then ∃ v, DStep P ops I j o v a ∧ Walk P ops I E (j + 1) r ks (a.put o.dst v)
    else if k = 1 then o.guard = none ∧ NStep P ops I j o a ∧ Walk P ops I E (j + 1) r ks a
    else Walk P ops I E (j + 1) r ks a
  | _, _, _, a => E a
def tl : List Oper → List Nat → List Oper
  | o :: r, k :: ks => if k = 2 then o :: tl r ks else tl r ks
  | _, _ => []
def putN (U : Nat → Value) : Nat → List Oper → List Nat → Act → Act
  | j, o :: r, k :: ks, a => if k = 1 then putN U (j + 1) r ks (a.put o.dst (U j)) else putN U (j + 1) r ks a
  | _, _, _, a => a
/-- What each operation is bound to, through others too, as bits. -/
def mask1 (ms : List Nat) (o : Oper) : Nat := o.after.toList.foldl (fun m e => if Region.binds .any e then m ||| (1 <<< e.on) ||| ms.getD e.on 0 else m) 0
def masks (ops : Array Oper) : Nat → List Nat
  | 0 => []
  | k + 1 => masks ops k ++ [((ops[k]?).map (mask1 (masks ops k))).getD 0]
def pairC (ops : Array Oper) (ks : List Nat) (i j : Nat) : Bool :=
  match ops[i]?, ops[j]? with
  | some x, some y =>
    match y.dst with
    | none => true
    | some t =>
      if cls ks i = 2 then true
      else if cls ks j = 2 then true
      else (x.dst != some t || i == j) && (if cls ks j = 1 then !(x.looksAt ops).contains t else (!(x.looksAt ops).contains t || (decide (j < i) && bindsOn x j) || (decide (i < j) && bindsOn y i)))
  | _, _ => true
def okC (ops : Array Oper) (ks : List Nat) : Bool :=
  RI.early ops && decide (ks.length = ops.size) && (List.range ops.size).all fun i =>
    (((ops[i]?).map fun o => !isSel o.op).getD true && decide (cls ks i ≤ 2)) && (List.range ops.size).all (fun j => pairC ops ks i j) &&
    (if cls ks i = 2 then (List.range ops.size).all fun j => (decide (cls ks j = 2) && decide (i ≤ j)) || ((masks ops ops.size).getD i 0).testBit j else true)
theorem masks_len (ops : Array Oper) : ∀ k, (masks ops k).length = k
  | 0 => rfl
  | k + 1 => by rw [masks, List.length_append, masks_len ops k]; rfl
theorem masks_get (ops : Array Oper) : ∀ n k, k < n → (masks ops n).getD k 0 = ((ops[k]?).map (mask1 (masks ops k))).getD 0
  | 0, k, h => absurd h (by omega)
  | n + 1, k, h => by
    rw [masks]
    by_cases e : k = n
    · subst e
      rw [List.getD_eq_getElem?_getD, List.getElem?_append_right (by rw [masks_len]; omega), masks_len]
      simp
    · rw [List.getD_eq_getElem?_getD, List.getElem?_append_left (by rw [masks_len]; omega), ← List.getD_eq_getElem?_getD]
      exact masks_get ops n k (by omega)
def Closed (ops : Array Oper) (d : Nat → Bool) : Prop := ∀ (j : Nat) (o : Oper), ops[j]? = some o → d j = true → ∀ e, e ∈ o.after → Region.binds .any e = true → d e.on = true
theorem mask1_bit (ms : List Nat) (o : Oper) (i : Nat) (h : (mask1 ms o).testBit i = true) : ∃ e, e ∈ o.after ∧ Region.binds .any e = true ∧ (e.on = i ∨ (ms.getD e.on 0).testBit i = true) := by
  unfold mask1 at h
  have key : ∀ (l : List Edge) (m : Nat), (l.foldl (fun m e => if Region.binds .any e then m ||| (1 <<< e.on) ||| ms.getD e.on 0 else m) m).testBit i = true → m.testBit i = true ∨ ∃ e, e ∈ l ∧ Region.binds .any e = true ∧ (e.on = i ∨ (ms.getD e.on 0).testBit i = true) := by
    intro l
    induction l with
    | nil => intro m h; exact .inl h
    | cons e r ih =>
      intro m h
      rw [List.foldl_cons] at h
      rcases ih _ h with h1 | ⟨e', h1, h2⟩
      · by_cases hb : Region.binds .any e = true
        · rw [if_pos hb, Nat.testBit_or, Nat.testBit_or, Bool.or_eq_true, Bool.or_eq_true] at h1
          rcases h1 with (h1 | h1) | h1
          · exact .inl h1
          · refine .inr ⟨e, List.mem_cons_self .., hb, .inl ?_⟩
            rw [Nat.one_shiftLeft, Nat.testBit_two_pow] at h1
            simpa using h1
          · exact .inr ⟨e, List.mem_cons_self .., hb, .inr h1⟩
        · rw [if_neg hb] at h1; exact .inl h1
      · exact .inr ⟨e', List.mem_cons_of_mem _ h1, h2⟩
  rcases key _ 0 h with h1 | ⟨e, h1, h2⟩
  · rw [Nat.zero_testBit] at h1; cases h1
  · exact ⟨e, by simpa using h1, h2⟩
theorem mask_done (he : RI.early ops = true) (d : Nat → Bool) (hcl : Closed ops d) : ∀ (n j : Nat), j < n → n ≤ ops.size → (∀ o, ops[j]? = some o → ∀ e, e ∈ o.after → Region.binds .any e = true → d e.on = true) → ∀ i, (((ops[j]?).map (mask1 (masks ops j))).getD 0).testBit i = true → d i = true
  | 0, j, h, _, _, _, _ => absurd h (by omega)
  | n + 1, j, hj, hn, hd, i, h => by
    have hjs : j < ops.size := by omega
    rw [Array.getElem?_eq_getElem hjs] at h
    simp only [Option.map_some, Option.getD_some] at h
    obtain ⟨e, h1, h2, h3⟩ := mask1_bit _ _ _ h
    have h4 := hd _ (Array.getElem?_eq_getElem hjs) e h1 h2
    rcases h3 with rfl | h3
    · exact h4
    · have hlt : e.on < j := by
        have h5 := List.all_eq_true.1 he j (List.mem_range.2 hjs)
        rw [Array.getElem?_eq_getElem hjs] at h5
        simp only [Option.map_some, Option.getD_some, Array.all_eq_true_iff_forall_mem] at h5
        have := h5 e h1
        rw [h2] at this
        simpa using this
      rw [masks_get ops j e.on hlt] at h3
      exact mask_done he d hcl n e.on (by omega) (by omega) (fun o ho => hcl e.on o ho h4) i h3
theorem fr_get2 (V : Nat → Value) (a : Act) (d c : Nat → Bool) (i t : Nat) : ∀ k, (∀ j, j < k → (ops[j]?).bind (·.dst) = some t → (j < i ∧ d j = true ∧ c j = true) ∨ (d j = false ∧ (c j = false ∨ i ≤ j))) → (fr ops V d a k).tmps[t]? = (fr ops V c a (min k i)).tmps[t]?
  | 0, _ => by simp [fr]
  | k + 1, h => by
    have ih := fr_get2 V a d c i t k (fun j hj => h j (by omega))
    have hk := h k (by omega)
    by_cases hi : k < i
    · rw [show min (k + 1) i = k + 1 by omega, fr, fr]
      rw [show min k i = k by omega] at ih
      by_cases e : (ops[k]?).bind (·.dst) = some t
      · rcases hk e with ⟨_, h2, h3⟩ | ⟨h1, h2 | h2⟩
        · rw [h2, h3]; simp only [if_true]; rw [put_get, put_get]; simp only [get_size ih, ih]
        · rw [h1, h2]; exact ih
        · omega
      · have q : ∀ (x : Act) (b : Bool), (if b then x.put ((ops[k]?).bind (·.dst)) (V k) else x).tmps[t]? = x.tmps[t]? := by
          intro x b; cases b
          · rfl
          · simp only [if_true]; rw [put_get, if_neg e]
        rw [q, q, ih]
    · rw [show min (k + 1) i = i by omega, fr]
      rw [show min k i = i by omega] at ih
      by_cases e : (ops[k]?).bind (·.dst) = some t
      · rcases hk e with ⟨h1, _⟩ | ⟨h2, _⟩
        · omega
        · rw [h2]; exact ih
      · cases d k
        · exact ih
        · simp only [if_true]; rw [put_get, if_neg e]; exact ih
theorem fr_put2 (V : Nat → Value) (a : Act) (d : Nat → Bool) (i : Nat) (hd : d i = false) : ∀ k, (∀ j, j < k → d j = true → ∀ t, (ops[i]?).bind (·.dst) = some t → (ops[j]?).bind (·.dst) ≠ some t) →
    fr ops V (don d i) a k = if i < k then (fr ops V d a k).put ((ops[i]?).bind (·.dst)) (V i) else fr ops V d a k
  | 0, _ => by simp [fr]
  | k + 1, h => by
    have ih := fr_put2 V a d i hd k (fun j hj => h j (by omega))
    rw [fr, fr]
    by_cases e : k = i
    · subst e
      rw [don_same, hd, ih, if_neg (show ¬ k < k by omega), if_pos (show k < k + 1 by omega)]
      simp
    · rw [don_other _ _ _ e, ih]
      by_cases h1 : i < k
      · rw [if_pos h1, if_pos (show i < k + 1 by omega)]
        cases hk : d k with
        | false => simp
        | true =>
          simp only [if_true]
          exact Act.put_comm _ _ _ (fun t ht => h k (by omega) hk t ht)
      · rw [if_neg h1, if_neg (show ¬ i < k + 1 by omega)]
def isD (ks : List Nat) (j : Nat) : Bool := cls ks j == 0
/-- What the walk gives. -/
theorem walk_vals {I : (Nat → Bool) → (Nat → Value) → World → Prop} {E : Act → Prop} (ks : List Nat) (a : Act) : ∀ (l : List Oper) (k : List Nat) (m : Nat) (V : Nat → Value), l.length = k.length → (∀ j o, l[j]? = some o → ops[m + j]? = some o) → (∀ j c, k[j]? = some c → cls ks (m + j) = c) → Walk P ops I E m l k (fr ops V (isD ks) a m) →
    ∃ V', (∀ j, j < m → V' j = V j) ∧ (∀ j o, l[j]? = some o → cls ks (m + j) = 0 → DStep P ops I (m + j) o (V' (m + j)) (fr ops V' (isD ks) a (m + j))) ∧ (∀ j o, l[j]? = some o → cls ks (m + j) = 1 → o.guard = none ∧ NStep P ops I (m + j) o (fr ops V' (isD ks) a (m + j))) ∧ E (fr ops V' (isD ks) a (m + l.length))
  | [], k, m, V, _, _, _, h => ⟨V, fun _ _ => rfl, fun j o hj => by simp at hj, fun j o hj => by simp at hj, by cases k <;> simpa [Walk] using h⟩
  | o :: r, [], m, V, hl, _, _, h => absurd hl (by simp)
  | o :: r, c :: k, m, V, hlen, hl, hc, h => by
    have hkm : ops[m]? = some o := by simpa using hl 0 o rfl
    have hcm : cls ks m = c := by simpa using hc 0 c rfl
    have frV : ∀ V1 V2 : Nat → Value, ∀ n, (∀ j, j < n → V1 j = V2 j) → fr ops V1 (isD ks) a n = fr ops V2 (isD ks) a n := fun V1 V2 n hv => fr_V a (isD ks) V1 V2 n (fun j hj _ => hv j hj)
    have hl' : ∀ j o', r[j]? = some o' → ops[m + 1 + j]? = some o' := fun j o' hj => by have := hl (j + 1) o' (by simpa using hj); rwa [show m + (j + 1) = m + 1 + j by omega] at this
    have hc' : ∀ j c', k[j]? = some c' → cls ks (m + 1 + j) = c' := fun j c' hj => by have := hc (j + 1) c' (by simpa using hj); rwa [show m + (j + 1) = m + 1 + j by omega] at this
    unfold Walk at h
    by_cases h0 : c = 0
    · rw [if_pos h0] at h
      obtain ⟨v, h1, h2⟩ := h
      let W : Nat → Value := fun j => if j = m then v else V j
      have hW : fr ops W (isD ks) a (m + 1) = (fr ops V (isD ks) a m).put o.dst v := by
        rw [fr, frV W V m (fun j hj => by simp only [W]; rw [if_neg (by omega)])]
        simp [isD, hcm, h0, hkm, W]
      rw [← hW] at h2
      obtain ⟨V', e1, e2, e3, e4⟩ := walk_vals ks a r k (m + 1) W (by simpa using hlen) hl' hc' h2
      have eV : fr ops V' (isD ks) a m = fr ops V (isD ks) a m := frV V' V m (fun j hj => by rw [e1 j (by omega)]; simp only [W]; rw [if_neg (by omega)])
      refine ⟨V', fun j hj => ?_, fun j o' hj hcj => ?_, fun j o' hj hcj => ?_, ?_⟩
      · rw [e1 j (by omega)]; simp only [W]; rw [if_neg (by omega)]
      · cases j with
        | zero =>
          have : o' = o := by simpa using hj.symm
          subst this
          rw [Nat.add_zero, e1 m (by omega), eV]
          simpa [W] using h1
        | succ j => rw [show m + (j + 1) = m + 1 + j by omega] at hcj ⊢; exact e2 j o' (by simpa using hj) hcj
      · cases j with
        | zero => rw [Nat.add_zero, hcm, h0] at hcj; exact absurd hcj (by decide)
        | succ j => rw [show m + (j + 1) = m + 1 + j by omega] at hcj ⊢; exact e3 j o' (by simpa using hj) hcj
      · rw [show m + (o :: r).length = m + 1 + r.length by simp; omega]; exact e4
    · rw [if_neg h0] at h
      have hskip : fr ops V (isD ks) a (m + 1) = fr ops V (isD ks) a m := by
        rw [fr]; simp [isD, hcm, h0]
      by_cases h1 : c = 1
      · rw [if_pos h1] at h
        obtain ⟨hg, hn, h2⟩ := h
        rw [← hskip] at h2
        obtain ⟨V', e1, e2, e3, e4⟩ := walk_vals ks a r k (m + 1) V (by simpa using hlen) hl' hc' h2
        have eV : fr ops V' (isD ks) a m = fr ops V (isD ks) a m := frV V' V m (fun j hj => e1 j (by omega))
        refine ⟨V', fun j hj => e1 j (by omega), fun j o' hj hcj => ?_, fun j o' hj hcj => ?_, ?_⟩
        · cases j with
          | zero => rw [Nat.add_zero, hcm] at hcj; exact absurd hcj h0
          | succ j => rw [show m + (j + 1) = m + 1 + j by omega] at hcj ⊢; exact e2 j o' (by simpa using hj) hcj
        · cases j with
          | zero =>
            have : o' = o := by simpa using hj.symm
            subst this
            rw [Nat.add_zero, eV]
            exact ⟨hg, hn⟩
          | succ j => rw [show m + (j + 1) = m + 1 + j by omega] at hcj ⊢; exact e3 j o' (by simpa using hj) hcj
        · rw [show m + (o :: r).length = m + 1 + r.length by simp; omega]; exact e4
      · rw [if_neg h1] at h
        rw [← hskip] at h
        obtain ⟨V', e1, e2, e3, e4⟩ := walk_vals ks a r k (m + 1) V (by simpa using hlen) hl' hc' h
        refine ⟨V', fun j hj => e1 j (by omega), fun j o' hj hcj => ?_, fun j o' hj hcj => ?_, ?_⟩
        · cases j with
          | zero => rw [Nat.add_zero, hcm] at hcj; exact absurd hcj h0
          | succ j => rw [show m + (j + 1) = m + 1 + j by omega] at hcj ⊢; exact e2 j o' (by simpa using hj) hcj
        · cases j with
          | zero => rw [Nat.add_zero, hcm] at hcj; exact absurd hcj h1
          | succ j => rw [show m + (j + 1) = m + 1 + j by omega] at hcj ⊢; exact e3 j o' (by simpa using hj) hcj
        · rw [show m + (o :: r).length = m + 1 + r.length by simp; omega]; exact e4
/-- The value of each that is not of class 2. -/
def VU (ks : List Nat) (V U : Nat → Value) (j : Nat) : Value := if cls ks j = 1 then U j else V j
def isDN (ks : List Nat) (j : Nat) : Bool := cls ks j == 0 || cls ks j == 1
theorem tl_skip : ∀ (l : List Oper) (ks : List Nat) (m n : Nat), m ≤ n → (∀ j, m ≤ j → j < n → ks.getD j 2 ≠ 2) → n ≤ ks.length → l.length = ks.length → tl (l.drop m) (ks.drop m) = tl (l.drop n) (ks.drop n) := by
  intro l ks m n hmn h hn hl
  induction n with
  | zero => have : m = 0 := by omega
            subst this; rfl
  | succ n ih =>
    by_cases e : m = n + 1
    · subst e; rfl
    · rw [ih (by omega) (fun j h1 h2 => h j h1 (by omega)) (by omega)]
      have hk : n < ks.length := by omega
      have hl' : n < l.length := by omega
      rw [List.drop_eq_getElem_cons hl', List.drop_eq_getElem_cons hk, tl, if_neg]
      have := h n (by omega) (by omega)
      rwa [List.getD_eq_getElem?_getD, List.getElem?_eq_getElem hk] at this
theorem tl_here (l : List Oper) (ks : List Nat) (n : Nat) (hl : n < l.length) (hk : n < ks.length) (h : ks.getD n 2 = 2) : tl (l.drop n) (ks.drop n) = l[n] :: tl (l.drop (n + 1)) (ks.drop (n + 1)) := by
  rw [List.drop_eq_getElem_cons hl, List.drop_eq_getElem_cons hk, tl, if_pos]
  rwa [List.getD_eq_getElem?_getD, List.getElem?_eq_getElem hk] at h
theorem wp_region_genI {id : Nat} {a : Act} {w : World} (I : (Nat → Bool) → (Nat → Value) → World → Prop) (ks : List Nat)
    (hm : P.follows .mixedOrders = true) (hok : okC ops ks = true) (h0 : I (fun _ => false) (fun _ => undef) w.drew)
    (hs : Walk P ops I (fun a' => ∀ d (U : Nat → Value) w', I d U w' → (∀ j, j < ops.size → d j = decide (cls ks j ≠ 2)) → wpList P ops Q (tl ops.toList ks) (putN U 0 ops.toList ks a') w') 0 ops.toList ks a) : (Code.region id ops true).wp P Q a w := by
  have hok' := hok
  unfold okC at hok'
  rw [Bool.and_eq_true, Bool.and_eq_true] at hok'
  obtain ⟨⟨he, hlen0⟩, hp⟩ := hok'
  have hlen : ks.length = ops.size := by simpa using hlen0
  have hcget : ∀ j c, ks[j]? = some c → cls ks j = c := fun j c h => by unfold cls; rw [List.getD_eq_getElem?_getD, h]; rfl
  have hgetc : ∀ j c, j < ops.size → cls ks j = c → ks[j]? = some c := fun j c hj h => by
    unfold cls at h
    rw [List.getD_eq_getElem?_getD, List.getElem?_eq_getElem (by omega)] at h
    rw [List.getElem?_eq_getElem (by omega)]
    simpa using h
  obtain ⟨V, _, hstD, hstN, hE⟩ := walk_vals (P := P) (ops := ops) ks a ops.toList ks 0 (fun _ => undef) (by simp [hlen]) (fun j o hj => by simpa using hj) (fun j c hj => by rw [Nat.zero_add]; exact hcget j c hj) hs
  simp only [Nat.zero_add] at hstD hstN hE
  rw [show ops.toList.length = ops.size by simp] at hE
  have hrow : ∀ i, i < ops.size → ((ops[i]?).map fun o => !isSel o.op).getD true = true ∧ (∀ j, j < ops.size → pairC ops ks i j = true) ∧ (cls ks i = 2 → ∀ j, j < ops.size → (cls ks j = 2 ∧ i ≤ j) ∨ ((masks ops ops.size).getD i 0).testBit j = true) := by
    intro i hi
    have h1 := List.all_eq_true.1 hp i (List.mem_range.2 hi)
    rw [Bool.and_eq_true, Bool.and_eq_true, Bool.and_eq_true] at h1
    refine ⟨h1.1.1.1, fun j hj => List.all_eq_true.1 h1.1.2 j (List.mem_range.2 hj), fun hc j hj => ?_⟩
    have h2 := h1.2
    rw [if_pos hc] at h2
    have h3 := List.all_eq_true.1 h2 j (List.mem_range.2 hj)
    rw [Bool.or_eq_true, Bool.and_eq_true, decide_eq_true_eq, decide_eq_true_eq] at h3
    exact h3
  have hthree : ∀ i, i < ops.size → cls ks i ≤ 2 := by
    intro i hi
    have h1 := List.all_eq_true.1 hp i (List.mem_range.2 hi)
    rw [Bool.and_eq_true, Bool.and_eq_true, Bool.and_eq_true] at h1
    simpa using h1.1.1.2
  have pair : ∀ (i j : Nat) (x y : Oper) (t : Nat), ops[i]? = some x → ops[j]? = some y → cls ks i ≠ 2 → cls ks j ≠ 2 → y.dst = some t → (x.dst = some t → i = j) ∧ (t ∈ x.looksAt ops → cls ks j ≠ 1 ∧ ((j < i ∧ bindsOn x j = true) ∨ (i < j ∧ bindsOn y i = true))) := by
    intro i j x y t hx hy hci hcj ht
    have hi : i < ops.size := (Array.getElem?_eq_some_iff.1 hx).1
    have hj : j < ops.size := (Array.getElem?_eq_some_iff.1 hy).1
    have h2 := (hrow i hi).2.1 j hj
    unfold pairC at h2
    simp only [hx, hy, ht, if_neg hci, if_neg hcj] at h2
    rw [Bool.and_eq_true] at h2
    refine ⟨fun e => ?_, fun hm => ?_⟩
    · have := h2.1
      rw [e] at this
      simpa using this
    · have h3 := h2.2
      by_cases hc1 : cls ks j = 1
      · rw [if_pos hc1] at h3
        simp at h3
        exact absurd hm h3
      · rw [if_neg hc1] at h3
        simp at h3
        refine ⟨hc1, ?_⟩
        rcases h3 with (h | h) | h
        · exact absurd hm h
        · exact .inl h
        · exact .inr h
  have nosel : ∀ (i : Nat) (x : Oper) cs b, ops[i]? = some x → x.op ≠ .select cs b := by
    intro i x cs b hx hc
    have hi : i < ops.size := (Array.getElem?_eq_some_iff.1 hx).1
    have h1 := (hrow i hi).1
    rw [hx] at h1
    simp [hc, isSel] at h1
  have deps : ∀ (d : Nat → Bool) (i : Nat) (o : Oper), may ops d i → ops[i]? = some o → ∀ e, e ∈ o.after → Region.binds .any e = true → d e.on = true := by
    intro d i o hmay ho e h1 h2
    have := hmay.2 o ho
    rw [Array.all_eq_true_iff_forall_mem] at this
    have := this e h1
    rw [h2] at this
    simpa using this
  have tailb : ∀ (d : Nat → Bool) (i : Nat), Closed ops d → cls ks i = 2 → i < ops.size → may ops d i → ∀ j, j < ops.size → (cls ks j ≠ 2 ∨ j < i) → d j = true := by
    intro d i hcl hc hi hmay j hj hor
    rcases (hrow i hi).2.2 hc j hj with ⟨h1, h2⟩ | h
    · rcases hor with h3 | h3
      · exact absurd h1 h3
      · omega
    · rw [masks_get ops ops.size i hi] at h
      exact mask_done he d hcl ops.size i hi (Nat.le_refl _) (fun o ho => deps d i o hmay ho) j h
  let J1 : (Nat → Bool) → Act → World → Prop := fun d x wx => ∃ U : Nat → Value, x = fr ops (VU ks V U) d a ops.size ∧ I d U wx ∧ Closed ops d ∧ (∀ j, cls ks j = 2 → d j = false) ∧ ∃ j, j < ops.size ∧ cls ks j ≠ 2 ∧ d j = false
  let J2 : (Nat → Bool) → Act → World → Prop := fun d x wx => ∃ m, m ≤ ops.size ∧ Closed ops d ∧ (∀ j, j < ops.size → d j = (decide (cls ks j ≠ 2) || decide (j < m))) ∧ wpList P ops Q (tl (ops.toList.drop m) (ks.drop m)) x wx
  have putfr : ∀ (U : Nat → Value) (m : Nat), m ≤ ops.size → putN U m (ops.toList.drop m) (ks.drop m) (fr ops (VU ks V U) (fun j => isD ks j || (cls ks j == 1 && decide (j < m))) a ops.size) = fr ops (VU ks V U) (isDN ks) a ops.size := by
    intro U m hm
    obtain ⟨k, hk⟩ : ∃ k, m + k = ops.size := ⟨ops.size - m, by omega⟩
    induction k generalizing m with
    | zero =>
      have : m = ops.size := by omega
      subst this
      rw [List.drop_eq_nil_of_le (by simp), putN.eq_def]
      simp only
      exact fr_congr _ a _ _ ops.size (fun j hj => by unfold isD isDN; rw [decide_eq_true hj, Bool.and_true])
    | succ k ih =>
      have hml : m < ops.size := by omega
      have hl' : m < ops.toList.length := by simpa using hml
      have hk' : m < ks.length := by omega
      rw [List.drop_eq_getElem_cons hl', List.drop_eq_getElem_cons hk', putN]
      have hcm : cls ks m = ks[m] := by unfold cls; rw [List.getD_eq_getElem?_getD, List.getElem?_eq_getElem hk']; rfl
      have hom : ops[m]? = some ops.toList[m] := by rw [Array.getElem?_eq_getElem hml]; simp
      by_cases h1 : ks[m] = 1
      · rw [if_pos h1]
        have hd0 : (isD ks m || (cls ks m == 1 && decide (m < m))) = false := by
          simp [isD, hcm, h1]
        have e1 : (fun j => isD ks j || (cls ks j == 1 && decide (j < m + 1))) = don (fun j => isD ks j || (cls ks j == 1 && decide (j < m))) m := by
          funext j
          by_cases hj : j = m
          · subst hj; rw [don_same]; simp [hcm, h1]
          · rw [don_other _ _ _ hj]
            rw [show decide (j < m + 1) = decide (j < m) by rw [decide_eq_decide]; omega]
        have e2 := fr_put2 (ops := ops) (VU ks V U) a (fun j => isD ks j || (cls ks j == 1 && decide (j < m))) m hd0 ops.size (fun j hj hdj t ht hjt => by
          obtain ⟨y, hy⟩ : ∃ y, ops[j]? = some y := ⟨ops[j], Array.getElem?_eq_getElem hj⟩
          rw [hy] at hjt
          rw [hom] at ht
          have hcj : cls ks j ≠ 2 := by
            intro h2
            rw [show ((isD ks j || (cls ks j == 1 && decide (j < m))) = false) by simp [isD, h2]] at hdj
            cases hdj
          have := (pair m j _ y t hom hy (by rw [hcm, h1]; decide) hcj hjt).1 ht
          subst this
          rw [hd0] at hdj; cases hdj)
        rw [if_pos hml] at e2
        have hV : VU ks V U m = U m := by unfold VU; rw [if_pos (by rw [hcm, h1])]
        rw [← ih (m + 1) (by omega) (by omega), e1, e2, hV, hom]
        rfl
      · rw [if_neg h1, ← ih (m + 1) (by omega) (by omega)]
        congr 1
        refine fr_congr _ a _ _ ops.size (fun j _ => ?_)
        by_cases hj : j = m
        · subst hj
          have : (cls ks j == 1) = false := by rw [hcm]; simpa using h1
          rw [this, Bool.false_and, Bool.false_and]
        · rw [show decide (j < m + 1) = decide (j < m) by rw [decide_eq_decide]; omega]
  have enter : ∀ d x wx (U : Nat → Value), x = fr ops (VU ks V U) d a ops.size → I d U wx → Closed ops d → (∀ j, cls ks j = 2 → d j = false) → (∀ j, j < ops.size → cls ks j ≠ 2 → d j = true) → J2 d x wx := by
    intro d x wx U hx hIw hcl hf htr
    have hdd : ∀ j, j < ops.size → d j = decide (cls ks j ≠ 2) := fun j hj => by
      by_cases hc : cls ks j = 2
      · rw [hf j hc, hc]; simp
      · rw [htr j hj hc]; simp [hc]
    refine ⟨0, Nat.zero_le _, hcl, fun j hj => ?_, ?_⟩
    · by_cases hc : cls ks j = 2
      · rw [hf j hc, hc]; simp
      · rw [htr j hj hc]; simp [hc]
    · have h1 := hE d U wx hIw hdd
      have h2 := putfr U 0 (Nat.zero_le _)
      rw [List.drop_zero, List.drop_zero] at h2 ⊢
      have h3 : fr ops V (isD ks) a ops.size = fr ops (VU ks V U) (fun j => isD ks j || (cls ks j == 1 && decide (j < 0))) a ops.size := by
        rw [fr_congr (VU ks V U) a _ (isD ks) ops.size (fun j _ => by simp)]
        refine fr_V a (isD ks) V (VU ks V U) ops.size (fun j _ hd => ?_)
        unfold VU
        rw [if_neg]
        intro h
        unfold isD at hd
        rw [h] at hd
        cases hd
      rw [h3, h2] at h1
      rw [hx, fr_congr (VU ks V U) a d (isDN ks) ops.size (fun j hj => ?_)]
      · exact h1
      · by_cases hc : cls ks j = 2
        · rw [hf j hc]; simp [isDN, hc]
        · rw [htr j hj hc]
          unfold isDN
          have h3c := hthree j hj
          by_cases h0c : cls ks j = 0
          · simp [h0c]
          · by_cases h1c : cls ks j = 1
            · simp [h1c]
            · omega
  refine wp_region_inv (fun d x wx => J1 d x wx ∨ J2 d x wx) hm he ?_ ?_ ?_
  · have hz : ∀ V', fr ops V' (fun _ => false) a ops.size = a := by
      intro V'
      have : ∀ k, fr ops V' (fun _ => false) a k = a := by
        intro k
        induction k with
        | zero => rfl
        | succ k ih => rw [fr, ih]; simp
      exact this _
    have hcl0 : Closed ops (fun _ => false) := fun _ _ _ h => by cases h
    by_cases hall : ∀ j, j < ops.size → cls ks j = 2
    · exact .inr (enter _ _ _ (fun _ => undef) (hz _).symm h0 hcl0 (fun _ _ => rfl) (fun j hj h => absurd (hall j hj) h))
    · rw [Classical.not_forall] at hall
      obtain ⟨j, hj⟩ := hall
      rw [Classical.not_imp] at hj
      exact .inl ⟨fun _ => undef, (hz _).symm, h0, hcl0, (fun _ _ => rfl), j, hj.1, hj.2, rfl⟩
  · rintro d x wx i (⟨U, rfl, hI, hcl, hfz, j0, hj0, hcj0, hdj0⟩ | ⟨m, hm', hcl, hd, hw⟩) hi hmay
    · have hci : cls ks i ≠ 2 := by
        intro h
        have := tailb d i hcl h hi hmay j0 hj0 (.inl hcj0)
        rw [hdj0] at this; cases this
      obtain ⟨o, ho⟩ : ∃ o, ops[i]? = some o := ⟨ops[i], Array.getElem?_eq_getElem hi⟩
      have hdeps := deps d i o hmay ho
      have hput : ∀ (V' : Nat → Value) v, v = V' i → (fr ops V' d a ops.size).put o.dst v = fr ops V' (don d i) a ops.size := by
        rintro V' v rfl
        rw [fr_put2 V' a d i hmay.1 ops.size (fun j hj hdj t ht => fun hjt => ?_), if_pos hi, ho]
        · rfl
        · obtain ⟨y, hy⟩ : ∃ y, ops[j]? = some y := ⟨ops[j], Array.getElem?_eq_getElem hj⟩
          rw [hy] at hjt
          rw [ho] at ht
          have hcj : cls ks j ≠ 2 := by intro h; rw [hfz j h] at hdj; cases hdj
          have := (pair i j o y t ho hy hci hcj hjt).1 ht
          subst this
          rw [hmay.1] at hdj; cases hdj
      have hclo : Closed ops (don d i) := by
        intro j o' hj hdj e e1 e2
        have : d e.on = true := by
          by_cases hji : j = i
          · subst hji
            rw [ho] at hj
            cases hj
            exact hdeps e e1 e2
          · rw [don_other _ _ _ hji] at hdj
            exact hcl j o' hj hdj e e1 e2
        unfold don; split
        · rfl
        · exact this
      have hnext : ∀ (U' : Nat → Value) x w', x = fr ops (VU ks V U') (don d i) a ops.size → I (don d i) U' w' → J1 (don d i) x w' ∨ J2 (don d i) x w' := by
        intro U' x w' hx hI'
        have hf' : ∀ j, cls ks j = 2 → don d i j = false := fun j hj => by
          have hji : j ≠ i := by intro e; subst e; exact hci hj
          rw [don_other _ _ _ hji]; exact hfz j hj
        by_cases hall : ∀ j, j < ops.size → cls ks j ≠ 2 → don d i j = true
        · exact .inr (enter _ _ _ U' hx hI' hclo hf' hall)
        · refine .inl ⟨U', hx, hI', hclo, hf', ?_⟩
          rw [Classical.not_forall] at hall
          obtain ⟨j, hj⟩ := hall
          rw [Classical.not_imp, Classical.not_imp] at hj
          exact ⟨j, hj.1, hj.2.1, by simpa using hj.2.2⟩
      have hsame : ∀ t, t ∈ o.looksAt ops → (fr ops (VU ks V U) d a ops.size).tmps[t]? = (fr ops V (isD ks) a i).tmps[t]? := by
        intro t ht
        have := fr_get2 (ops := ops) (VU ks V U) a d (isD ks) i t ops.size (fun j hj hjt => by
          obtain ⟨y, hy⟩ : ∃ y, ops[j]? = some y := ⟨ops[j], Array.getElem?_eq_getElem hj⟩
          rw [hy] at hjt
          by_cases hc2 : cls ks j = 2
          · exact .inr ⟨hfz j hc2, .inl (by simp [isD, hc2])⟩
          · obtain ⟨hc1, hb⟩ := (pair i j o y t ho hy hci hc2 hjt).2 ht
            have hc0 : cls ks j = 0 := by have := hthree j hj; omega
            rcases hb with ⟨h1, h2⟩ | ⟨h1, h2⟩
            · obtain ⟨e, e1, e2, e3⟩ := bindsOn_spec h2
              exact .inl ⟨h1, e3 ▸ hdeps e e1 e2, by simp [isD, hc0]⟩
            · refine .inr ⟨?_, .inr (by omega)⟩
              cases hdj : d j with
              | false => rfl
              | true =>
                obtain ⟨e, e1, e2, e3⟩ := bindsOn_spec h2
                have := hcl j y hy hdj e e1 e2
                rw [e3, hmay.1] at this; cases this)
        rw [this, show min ops.size i = i by omega, fr_V a (isD ks) (VU ks V U) V i (fun j hj hdj => by
          unfold VU
          rw [if_neg]
          intro h
          unfold isD at hdj
          rw [h] at hdj
          cases hdj)]
      have hex : execOp (fr ops (VU ks V U) d a ops.size).eval o = execOp (fr ops V (isD ks) a i).eval o := by
        refine execOp_congr o (fun cs b => nosel i o cs b ho) (fun x hx => ?_)
        cases x with
        | tmp t => exact eval_get (hsame t (mem_looks hx))
        | _ => rfl
      have hwa := wanted_get hsame
      by_cases hc0 : cls ks i = 0
      · have hVi : V i = VU ks V U i := by unfold VU; rw [if_neg (by omega)]
        unfold wpOp
        rw [ho]
        simp only
        rcases hstD i o (by simpa using ho) hc0 with ⟨h1, h2⟩ | ⟨h1, h2, h3⟩
        · rw [hwa, h1, if_pos rfl]
          refine .inl ?_
          unfold Oper.wp
          rw [hex]
          exact upv_upon (h2 _ d U wx hI hmay (fun w' hI' => hnext U _ _ (hput _ _ hVi) hI'))
        · rw [hwa, h1]
          simp only [Bool.false_eq_true, if_false]
          exact hnext U _ _ (hput _ _ (h2.symm.trans hVi)) (h3 d U wx hI hmay)
      · have hc1 : cls ks i = 1 := by have := hthree i hi; omega
        obtain ⟨hg, hrun⟩ := hstN i o (by simpa using ho) hc1
        unfold wpOp
        rw [ho]
        simp only
        rw [if_pos (show Region.wanted o (yielded ops (fr ops (VU ks V U) d a ops.size).tmps) = true by simp [Region.wanted, hg])]
        refine .inl ?_
        unfold Oper.wp
        rw [hex]
        refine upv_upon (hrun _ d U wx hI hmay (fun v w' hI' => ?_))
        have hU : ∀ j, j ≠ i → updU U i v j = U j := fun j hj => by unfold updU; rw [if_neg hj]
        have hUi : updU U i v i = v := by simp [updU]
        have hfr : fr ops (VU ks V U) d a ops.size = fr ops (VU ks V (updU U i v)) d a ops.size := fr_V a d _ _ _ (fun j _ hdj => by
          have hji : j ≠ i := by intro e; subst e; rw [hmay.1] at hdj; cases hdj
          unfold VU; rw [hU j hji])
        have hval : v = VU ks V (updU U i v) i := by unfold VU; rw [if_pos hc1, hUi]
        exact hnext (updU U i v) _ _ (by rw [hfr]; exact hput _ _ hval) hI'
    · have hci : cls ks i = 2 := by
        have h1 := hd i hi
        rw [hmay.1] at h1
        by_cases hc : cls ks i = 2
        · exact hc
        · simp [hc] at h1
      have him : ¬ i < m := by
        intro h
        have h1 := hd i hi
        rw [hmay.1, decide_eq_true h] at h1
        simp at h1
      have hbefore := tailb d i hcl hci hi hmay
      have hnone : ∀ j, m ≤ j → j < i → ks.getD j 2 ≠ 2 := by
        intro j h1 h2 h3
        have h4 := hbefore j (by omega) (.inr h2)
        rw [hd j (by omega)] at h4
        have : cls ks j = 2 := h3
        rw [this, decide_eq_false (show ¬ j < m by omega)] at h4
        simp at h4
      have hlo : ops.toList.length = ks.length := by simp [hlen]
      rw [tl_skip ops.toList ks m i (by omega) hnone (by omega) hlo, tl_here ops.toList ks i (by simpa using hi) (by omega) hci] at hw
      have hcloD : Closed ops (don d i) := by
        obtain ⟨o, ho⟩ : ∃ o, ops[i]? = some o := ⟨ops[i], Array.getElem?_eq_getElem hi⟩
        intro j o' hj hdj e e1 e2
        have : d e.on = true := by
          by_cases hji : j = i
          · subst hji; exact deps d j o' hmay hj e e1 e2
          · rw [don_other _ _ _ hji] at hdj
            exact hcl j o' hj hdj e e1 e2
        unfold don; split
        · rfl
        · exact this
      have key : ∀ x' w', wpList P ops Q (tl (ops.toList.drop (i + 1)) (ks.drop (i + 1))) x' w' → J1 (don d i) x' w' ∨ J2 (don d i) x' w' := fun x' w' h => .inr ⟨i + 1, by omega, hcloD, fun j hj => by
        by_cases hji : j = i
        · subst hji; rw [don_same]; simp
        · rw [don_other _ _ _ hji, hd j hj]
          by_cases hc : cls ks j = 2
          · have e : decide (j < m) = decide (j < i + 1) := by
              rw [decide_eq_decide]
              constructor
              · intro _; omega
              · intro h1
                rcases Nat.lt_or_ge j m with h2 | h2
                · exact h2
                · exact absurd hc (hnone j h2 (by omega))
            rw [e]
          · simp [hc], h⟩
      refine wpOp_mono key ?_
      unfold wpOp
      rw [Array.getElem?_eq_getElem hi]
      rw [show ops.toList[i] = ops[i] by simp] at hw
      exact hw
  · rintro d x wx (⟨_, _, _, _, _, j, hj, _, hdj⟩ | ⟨m, hm', hcl, hd, hw⟩) hall
    · have := hall j hj
      rw [hdj] at this; cases this
    · have hlo : ops.toList.length = ks.length := by simp [hlen]
      rw [tl_skip ops.toList ks m ops.size hm' (fun j h1 h2 h3 => by
        have h4 := hall j h2
        rw [hd j h2] at h4
        have : cls ks j = 2 := h3
        rw [this, decide_eq_false (show ¬ j < m by omega)] at h4
        simp at h4) (by omega) hlo, List.drop_eq_nil_of_le (by simp)] at hw
      unfold tl at hw
      exact hw
/-- S throughout; of each of class 1 that is done, Y; of each two, X. -/
def SYX (S : World → Prop) (Y : Nat → Value → World → Prop) (X : Value → Value → Prop) (ks : List Nat) (d : Nat → Bool) (U : Nat → Value) (w : World) : Prop :=
  S w ∧ (∀ j, ks[j]? = some 1 → d j = true → Y j (U j) w) ∧ (∀ i j, ks[i]? = some 1 → ks[j]? = some 1 → i ≠ j → d i = true → d j = true → X (U i) (U j))
structure Lasts (S : World → Prop) (Y : Nat → Value → World → Prop) : Prop where
  s : ∀ w1 w2, S w1 → Below w1.heap.size w1 w2 → S w2
  y : ∀ j v w1 w2, Y j v w1 → Below w1.heap.size w1 w2 → Y j v w2
theorem syx_on {S : World → Prop} {Y : Nat → Value → World → Prop} {X : Value → Value → Prop} {ks : List Nat} {d : Nat → Bool} {U : Nat → Value} {i : Nat} {w w' : World} (hL : Lasts S Y) (hi : ks[i]? ≠ some 1) (h : SYX S Y X ks d U w) (hb : Below w.heap.size w w') : SYX S Y X ks (don d i) U w' := by
  have hd : ∀ j, ks[j]? = some 1 → don d i j = true → d j = true := fun j hj h => by
    have hji : j ≠ i := by intro e; subst e; exact hi hj
    rwa [don_other _ _ _ hji] at h
  exact ⟨hL.s _ _ h.1 hb, fun j h1 h2 => hL.y _ _ _ _ (h.2.1 j h1 (hd j h1 h2)) hb, fun k j h1 h2 h3 h4 h5 => h.2.2 k j h1 h2 h3 (hd k h1 h4) (hd j h2 h5)⟩
section
variable {S : World → Prop} {Y : Nat → Value → World → Prop} {X : Value → Value → Prop} {E : Act → Prop} {j : Nat} {o : Oper} {r : List Oper} {k ks : List Nat} {a a' : Act} {v : Value}
theorem go1 (hL : Lasts S Y) (hj : ks[j]? ≠ some 1) (hg : o.guard = none)
    (h : ∀ (K : Value → World → Prop) w, S w → (∀ w', Below w.heap.size w w' → K v w') → upv P K ((execOp a.eval o).run P w)) (he : a.put o.dst v = a')
    (hr : Walk P ops (SYX S Y X ks) E (j + 1) r k a') : Walk P ops (SYX S Y X ks) E j (o :: r) (0 :: k) a := by
  unfold Walk
  rw [if_pos rfl]
  exact ⟨v, .inl ⟨by simp [Region.wanted, hg], fun K d U w hI _ hK => h K w hI.1 (fun w' hb => hK w' (syx_on hL hj hI hb))⟩, he ▸ hr⟩
theorem go1g (hL : Lasts S Y) (hj : ks[j]? ≠ some 1) (hg : Region.wanted o (yielded ops a.tmps) = true)
    (h : ∀ (K : Value → World → Prop) w, S w → (∀ w', Below w.heap.size w w' → K v w') → upv P K ((execOp a.eval o).run P w)) (he : a.put o.dst v = a')
    (hr : Walk P ops (SYX S Y X ks) E (j + 1) r k a') : Walk P ops (SYX S Y X ks) E j (o :: r) (0 :: k) a := by
  unfold Walk
  rw [if_pos rfl]
  exact ⟨v, .inl ⟨hg, fun K d U w hI _ hK => h K w hI.1 (fun w' hb => hK w' (syx_on hL hj hI hb))⟩, he ▸ hr⟩
theorem go0 (hL : Lasts S Y) (hj : ks[j]? ≠ some 1) (hg : Region.wanted o (yielded ops a.tmps) = false) (he : a.put o.dst undef = a')
    (hr : Walk P ops (SYX S Y X ks) E (j + 1) r k a') : Walk P ops (SYX S Y X ks) E j (o :: r) (0 :: k) a := by
  unfold Walk
  rw [if_pos rfl]
  exact ⟨undef, .inr ⟨hg, rfl, fun d U w hI _ => syx_on hL hj hI (Below.refl _ _)⟩, he ▸ hr⟩
theorem goN (hL : Lasts S Y) (hg : o.guard = none)
    (h : ∀ (K : Value → World → Prop) w, S w → (∀ v w', Below w.heap.size w w' → Y j v w' → (∀ i u, Y i u w → X u v ∧ X v u) → K v w') → upv P K ((execOp a.eval o).run P w))
    (hr : Walk P ops (SYX S Y X ks) E (j + 1) r k a) : Walk P ops (SYX S Y X ks) E j (o :: r) (1 :: k) a := by
  unfold Walk
  rw [if_neg (by decide), if_pos rfl]
  refine ⟨hg, fun K d U w hI hmay hK => h K w hI.1 (fun v w' hb hYn hXn => hK v w' ?_), hr⟩
  have hU : ∀ i, i ≠ j → updU U j v i = U i := fun i hi => by unfold updU; rw [if_neg hi]
  have hUj : updU U j v j = v := by simp [updU]
  have hdon : ∀ i, i ≠ j → don d j i = true → d i = true := fun i hi h => by rwa [don_other _ _ _ hi] at h
  refine ⟨hL.s _ _ hI.1 hb, fun i h1 h2 => ?_, fun i l h1 h2 h3 h4 h5 => ?_⟩
  · by_cases hi : i = j
    · subst hi; rw [hUj]; exact hYn
    · rw [hU i hi]; exact hL.y _ _ _ _ (hI.2.1 i h1 (hdon i hi h2)) hb
  · by_cases hl : l = j
    · subst hl
      rw [hUj, hU i h3]
      exact (hXn i _ (hI.2.1 i h1 (hdon i h3 h4))).1
    · by_cases hi : i = j
      · subst hi
        rw [hUj, hU l hl]
        exact (hXn l _ (hI.2.1 l h2 (hdon l hl h5))).2
      · rw [hU i hi, hU l hl]; exact hI.2.2 i l h1 h2 h3 (hdon i hi h4) (hdon l hl h5)
end
theorem goT {I : (Nat → Bool) → (Nat → Value) → World → Prop} {E : Act → Prop} {j : Nat} {o : Oper} {r : List Oper} {k : List Nat} {a : Act}
    (hr : Walk P ops I E (j + 1) r k a) : Walk P ops I E j (o :: r) (2 :: k) a := by
  unfold Walk
  rw [if_neg (by decide), if_neg (by decide)]
  exact hr
theorem go_end {I : (Nat → Bool) → (Nat → Value) → World → Prop} {E : Act → Prop} {j : Nat} {a : Act} (h : E a) : Walk P ops I E j [] [] a := by
  unfold Walk; exact h
theorem walk_mono {I : (Nat → Bool) → (Nat → Value) → World → Prop} {E E' : Act → Prop} (h : ∀ a, E a → E' a) : ∀ (l : List Oper) (k : List Nat) (j : Nat) (a : Act), Walk P ops I E j l k a → Walk P ops I E' j l k a
  | [], [], _, _, hs => by unfold Walk at *; exact h _ hs
  | [], _ :: _, _, _, hs => by unfold Walk at *; exact h _ hs
  | _ :: _, [], _, _, hs => by unfold Walk at *; exact h _ hs
  | o :: r, c :: k, j, a, hs => by
    unfold Walk at *
    by_cases h0 : c = 0
    · rw [if_pos h0] at *
      obtain ⟨v, h1, h2⟩ := hs
      exact ⟨v, h1, walk_mono h r k _ _ h2⟩
    · rw [if_neg h0] at *
      by_cases h1 : c = 1
      · rw [if_pos h1] at *
        exact ⟨hs.1, hs.2.1, walk_mono h r k _ _ hs.2.2⟩
      · rw [if_neg h1] at *
        exact walk_mono h r k _ _ hs
theorem wp_region_gen {id : Nat} {a : Act} {w : World} (S : World → Prop) (Y : Nat → Value → World → Prop) (X : Value → Value → Prop) (ks : List Nat)
    (hm : P.follows .mixedOrders = true) (hok : okC ops ks = true) (h0 : S w.drew)
    (hs : Walk P ops (SYX S Y X ks) (fun a' => ∀ (U : Nat → Value) w', S w' → (∀ j, ks[j]? = some 1 → Y j (U j) w') → (∀ i j, ks[i]? = some 1 → ks[j]? = some 1 → i ≠ j → X (U i) (U j)) → wpList P ops Q (tl ops.toList ks) (putN U 0 ops.toList ks a') w') 0 ops.toList ks a) : (Code.region id ops true).wp P Q a w := by
  have hlen : ks.length = ops.size := by
    have h := hok
    unfold okC at h
    rw [Bool.and_eq_true, Bool.and_eq_true] at h
    simpa using h.1.2
  refine wp_region_genI (SYX S Y X ks) ks hm hok ⟨h0, (fun _ _ h => by cases h), (fun _ _ _ _ _ h => by cases h)⟩ (walk_mono (fun a' h d U w' hI hd => ?_) _ _ _ _ hs)
  have hdone : ∀ j, ks[j]? = some 1 → d j = true := fun j hj => by
    have hjl : j < ops.size := by have := (List.getElem?_eq_some_iff.1 hj).1; omega
    rw [hd j hjl]
    have : cls ks j = 1 := by unfold cls; rw [List.getD_eq_getElem?_getD, hj]; rfl
    rw [this]; rfl
  exact h U w' hI.1 (fun j hj => hI.2.1 j hj (hdone j hj)) (fun i j hi hj hne => hI.2.2 i j hi hj hne (hdone i hi) (hdone j hj))
end RG
end Go.Proofs.Ytdcbgldelfhohab
/- tree.Of. -/
namespace Go.Proofs.Ytdcbgldelfhohab
namespace Tr
open Nb Go.RowKit
/-- What stands behind k rounds of Of. -/
structure OI (l : Rt) (w : World) (k : Nat) (nv : Value) (wr : World) : Prop where
  nd : ∃ t, In w.heap.size wr t nv (fun z => w.heap.size + 1 ≤ z) ∧ Rs t ∧ ∀ q, gt t q = vl (l.take k) q
  ok : ∀ r ∈ l.take k, mp r.1.length r.2.length = 0
  b : Below w.heap.size w wr
  v : B4 w.heap.size wr
set_option maxHeartbeats 2000000 in
set_option maxRecDepth 100000 in
theorem of_any (l : Rt) (ao : Option Addr) (n cap : Nat) (w : World) (hl : Pv (· < w.heap.size) l (.slice ao n cap) w) (hn : Hid (n = l.length)) (HL : Hid (n ≤ 4194304)) :
    Calls Try.prog 16 #[.slice ao n cap] w fun e w' => ∃ (r : Nd) (u : V4), e = .returned (.tuple #[v4 u, .int .i64 (oe l)]) ∧ Nv (w.heap.size ≤ ·) w' r u ∧ OR l r ∧ Below w.heap.size w w' := by
  have HP : Hid (Pv (· < w.heap.size) l (.slice ao n cap) w) := hl
  have bA : Below w.heap.size w (w.alloc (.cells #[.int .i64 0, .slice none 0 0, .slice none 0 0, .slice none 0 0] 25)) := (Below.refl _ _).alloc (Nat.le_refl _) _
  have I0 : Hid (OI l w 0 (.iface 65 (.agg #[])) (w.alloc (.cells #[.int .i64 0, .slice none 0 0, .slice none 0 0, .slice none 0 0] 25))) := ⟨⟨.mk 0 [] [] [], .none [] [] [] _, .none [] [] [], fun q => by rw [gt_zero 0 [] [] [] q (by decide) (by decide) (by decide)]; rfl⟩, fun r hr => absurd hr (by simp), bA, B4_new w⟩
  clear hl bA
  go_enter Try.func16, Try.ntmps16
  go_wp2_with fail
  generalize (w.alloc (.cells #[.int .i64 0, .slice none 0 0, .slice none 0 0, .slice none 0 0] 25)) = W0 at *
  go_loopw [4, 12] (fun nv i wr => ∃ k : Nat, k ≤ n ∧ i = .int .i64 (k : Int) ∧ OI l w k nv wr) (fun _ i _ => ((n : Int) - intOf i).toNat)
  case atStart => exact ⟨0, Nat.zero_le _, rfl, I0.out⟩
  case round =>
    obtain ⟨k, hk, rfl, hI⟩ := hrel
    have HI : Hid (OI l w k u4 wr) := hI
    obtain ⟨t, hin, hrs, hgt⟩ := hI.nd
    obtain ⟨ty, yy, rfl⟩ := In_form hin
    clear hI hin hrs hgt
    by_cases hlt : k < n
    · have hkl : k < l.length := by have := hn.out; omega
      have d0 : decide ((k : Int) < (n : Int)) = true := decide_eq_true (by omega)
      have d1 : (0 : Int) ≤ (k : Int) := by omega
      have d2 : (k : Int) < (n : Int) := by omega
      obtain ⟨g, off, kv, vv, rfl, hgw, hgl, c0, c1, hb0, hb1⟩ := Pv_at HP.out hkl
      obtain ⟨kb, hkb⟩ : ∃ kb, kb = (l.getD k n2).1 := ⟨_, rfl⟩
      obtain ⟨vb, hvb⟩ : ∃ vb, vb = (l.getD k n2).2 := ⟨_, rfl⟩
      rw [← hkb] at hb0
      rw [← hvb] at hb1
      obtain ⟨ak, ck, rfl, _⟩ := Bs_form hb0
      obtain ⟨av, cv, rfl, _⟩ := Bs_form hb1
      have r0 : wr.cell? ⟨g, off + k * 2, none⟩ = some (.slice ak kb.length ck) := (HI.out.b.cell (p := ⟨g, off + k * 2, none⟩) hgl).trans (by rw [Nat.mul_comm k 2]; exact c0)
      have r1 : wr.cell? ⟨g, off + k * 2 + 1, none⟩ = some (.slice av vb.length cv) := (HI.out.b.cell (p := ⟨g, off + k * 2 + 1, none⟩) hgl).trans (by rw [Nat.mul_comm k 2]; exact c1)
      have HKB : Hid (Bs (· < w.heap.size) kb (.slice ak kb.length ck) w) := hb0
      have HVB : Hid (Bs (· < w.heap.size) vb (.slice av vb.length cv) w) := hb1
      have HR : Hid ((kb, vb) = l.getD k n2) := by rw [hkb, hvb]; exact rfl
      have e5 : Hid (wrap64 ((k : Int) + 1) = ((k + 1 : Nat) : Int)) := by have := HL.out; show _ = _; unfold wrap64; omega
      have hms := msr_up k n hlt
      obtain ⟨nk, hnk⟩ : ∃ nk, nk = kb.length := ⟨_, rfl⟩
      obtain ⟨nv, hnv⟩ : ∃ nv, nv = vb.length := ⟨_, rfl⟩
      have HNK : Hid (nk = kb.length) := hnk
      have HNV : Hid (nv = vb.length) := hnv
      rw [← hnk] at HKB r0
      rw [← hnv] at HVB r1
      clear hnk hnv hb0 hb1 c0 c1
      have KM : Hid (∀ wx : World, Calls Try.prog 18 #[.slice ak nk ck, .slice av nv cv] wx fun e w' => e = .returned (.int .i64 (mp nk nv)) ∧ w' = wx) := fun wx => mayput_any ak av nk ck nv cv wx
      have HA := heap_alloc_new wr (.cells #[.slice ak nk ck, .slice av nv cv] 41)
      have p0 : (wr.alloc (.cells #[.slice ak nk ck, .slice av nv cv] 41)).cell? ⟨wr.heap.size, 0, none⟩ = some (.slice ak nk ck) := by simp only [World.cell?, HA]; rfl
      have p1 : (wr.alloc (.cells #[.slice ak nk ck, .slice av nv cv] 41)).cell? ⟨wr.heap.size, 1, none⟩ = some (.slice av nv cv) := by simp only [World.cell?, HA]; rfl
      have bW : Below wr.heap.size wr (wr.alloc (.cells #[.slice ak nk ck, .slice av nv cv] 41)) := (Below.refl _ _).alloc (Nat.le_refl _) _
      have hgp : Hid (wr.heap.size < (wr.alloc (.cells #[.slice ak nk ck, .slice av nv cv] 41)).heap.size) := by show _ < _; simp
      have HI1 : Hid (OI l w k (.iface ty yy) (wr.alloc (.cells #[.slice ak nk ck, .slice av nv cv] 41))) := by
        obtain ⟨⟨t, hin, hrs, hgt⟩, ok, b, v⟩ := HI.out
        exact ⟨⟨t, In_below hin bW, hrs, hgt⟩, ok, b.trans (bW.mono b.size), B4_gb (r := none) v (gb_below bW) (fun e => by cases e)⟩
      clear HA bW HI hgw hgl hkb hvb HP
      generalize hw1 : (wr.alloc (.cells #[.slice ak nk ck, .slice av nv cv] 41)) = w1 at *
      by_cases hm : mp nk nv = 0
      · rw [hm] at KM
        have hlm := mp_zero hm
        have KH : Hid (∀ wx : World, Below w1.heap.size w1 wx → Calls Try.prog 20 #[.slice ak nk ck] wx fun e w' => ∃ a n c, e = .returned (.slice a n c) ∧ Bs (Sb w.heap.size w') (hv kb) (.slice a n c) w' ∧ Below wx.heap.size wx w') := fun wx hx => halves_bs (Bs_below (Bs_below HKB.out HI1.out.b) hx) (by have := HNK.out; omega)
        have KP : Hid (∀ (pv : Value) (wx : World), Bs (Sb w.heap.size wx) (hv kb) pv wx → Below w1.heap.size w1 wx → Calls Try.prog 19 #[.iface ty yy, pv, .slice av nv cv] wx fun e w' => ∃ ty yy, e = .returned (.iface ty yy) ∧ OI l w (k + 1) (.iface ty yy) w') := fun pv wx hpv hbx => by
          obtain ⟨⟨t, hin, hrs, hgt⟩, ok, b, v⟩ := HI1.out
          have hm' : mp (l.getD k n2).1.length (l.getD k n2).2.length = 0 := by rw [← HR.out]; show mp kb.length vb.length = 0; rw [← HNK.out, ← HNV.out]; exact hm
          have hln := vl_ln ok
          have hL2 := HNK.out
          have hbw := b.trans (hbx.mono b.size)
          refine (put_all w.heap.size 64 (by omega) _ t (hv kb) vb _ pv _ _ wx (Nat.le_refl _) (In_below hin hbx) hrs (fun q hq => hln.1 q (by rw [← hgt q]; exact hq)) (by rw [hv_len]; omega) hpv (Bs_lo (Bs_below HVB.out hbw)) (pt_hv kb) hbw.size).mono fun e w' he => ?_
          obtain ⟨y', rfl, t', F', k1, k2, k3, k4, k5⟩ := he
          obtain ⟨ty', yy', rfl⟩ := In_form k1
          refine ⟨ty', yy', rfl, ⟨t', In_mono k1 (fun z hz => (k4 z hz).elim id (fun h => by have := v.hi; have := hbx.size; omega)), k2, fun q => ?_⟩, fun r hr => ?_, hbw.trans (below_ch k5 hbw.size), ?_⟩
          · rw [take_snoc l k hkl, vl_snoc, ← HR.out, k3 q, hgt q]
          · rw [take_snoc l k hkl] at hr
            rcases List.mem_append.1 hr with hr | hr
            · exact ok r hr
            · rw [List.mem_singleton.1 hr]; exact hm'
          · have v2 : B4 w.heap.size wx := B4_gb (r := none) v (gb_below hbx) (fun e => by cases e)
            exact B4_blk v2 k5.size (k5.block _ v2.hi (fun h => by have := h.1; omega))
        have hL : RG.Lasts (fun wx => Below w1.heap.size w1 wx) (fun _ v wx => ∃ a n c, v = .slice a n c ∧ Bs (Sb w.heap.size wx) (hv kb) (.slice a n c) wx) := ⟨fun _ _ h hb => h.trans (hb.mono h.size), fun j _ _ _ h hb => by
          obtain ⟨a, n, c, rfl, h1⟩ := h
          exact ⟨a, n, c, rfl, Bs_ch (G := fun _ => False) h1 (ch_below hb)⟩⟩
        have P0 : Hid (w1.cell? ⟨wr.heap.size, 0, none⟩ = some (.slice ak nk ck)) := p0
        have P1 : Hid (w1.cell? ⟨wr.heap.size, 1, none⟩ = some (.slice av nv cv)) := p1
        clear HR HKB HVB HNK HNV HI1 hm hn hk hkl HL I0 hlm
        go_wp2_with fail
        refine (KM.out _).mono ?_
        rintro e w2 ⟨rfl, rfl⟩
        go_upto_region 8 with fail
        clear p0 p1 r0 r1 KM hw1
        generalize hgg : wr.heap.size = gp at *
        clear hgg
        refine RG.wp_region_gen (fun wx => Below w2.heap.size w2 wx) (fun _ v wx => ∃ a n c, v = .slice a n c ∧ Bs (Sb w.heap.size wx) (hv kb) (.slice a n c) wx) (fun _ _ => True) [0, 0, 0, 1, 0, 0, 2, 2] (by kernel_rfl) (by kernel_rfl) ((Below.refl _ _).drew) ?_
        dsimp only [List.toList_toArray]
        refine RG.go1 (v := ?_) (a' := ?_) hL (by decide) rfl ?_ ?_ ?_
        rotate_left 2
        · intro K wx hS hK
          go_simp
          exact hK _ (Below.refl _ _)
        · simp only [Act.put, List.setIfInBounds_toArray, List.set_cons_succ, List.set_cons_zero]
          rfl
        refine RG.go1 (v := ?_) (a' := ?_) hL (by decide) rfl ?_ ?_ ?_
        rotate_left 2
        · intro K wx hS hK
          go_simp
          exact hK _ (Below.refl _ _)
        · simp only [Act.put, List.setIfInBounds_toArray, List.set_cons_succ, List.set_cons_zero]
          rfl
        refine RG.go1 (v := ?_) (a' := ?_) hL (by decide) rfl ?_ ?_ ?_
        rotate_left 2
        · intro K wx hS hK
          have x0 := (hS.cell (p := ⟨gp, 0, none⟩) hgp.out).trans P0.out
          go_simp
          exact hK _ (Below.refl _ _)
        · simp only [Act.put, List.setIfInBounds_toArray, List.set_cons_succ, List.set_cons_zero]
          rfl
        refine RG.goN hL rfl ?_ ?_
        · intro K wx hS hK
          go_simp
          refine (KH.out _ hS).mono (fun e w2 he => ?_)
          obtain ⟨a, n, c, rfl, h1, h2⟩ := he
          refine ⟨_, rfl, ?_⟩
          exact hK _ _ h2 ⟨a, n, c, rfl, h1⟩ (fun _ _ _ => ⟨trivial, trivial⟩)
        refine RG.go1 (v := ?_) (a' := ?_) hL (by decide) rfl ?_ ?_ ?_
        rotate_left 2
        · intro K wx hS hK
          go_simp
          exact hK _ (Below.refl _ _)
        · simp only [Act.put, List.setIfInBounds_toArray, List.set_cons_succ, List.set_cons_zero]
          rfl
        refine RG.go1 (v := ?_) (a' := ?_) hL (by decide) rfl ?_ ?_ ?_
        rotate_left 2
        · intro K wx hS hK
          have x0 := (hS.cell (p := ⟨gp, 1, none⟩) hgp.out).trans P1.out
          go_simp
          exact hK _ (Below.refl _ _)
        · simp only [Act.put, List.setIfInBounds_toArray, List.set_cons_succ, List.set_cons_zero]
          rfl
        refine RG.goT ?_
        refine RG.goT ?_
        refine RG.go_end ?_
        intro U w9 m9 y9 x9
        simp +decide only [RG.tl, RG.putN, if_true, if_false, Act.put, List.setIfInBounds_toArray, List.set_cons_succ, List.set_cons_zero, Nat.reduceAdd]
        obtain ⟨ha, hn, hc, hU, hbs⟩ := y9 3 rfl
        simp only [hU]
        have HBS : Hid (Bs (Sb w.heap.size w9) (hv kb) (.slice ha hn hc) w9) := hbs
        have M9 : Hid (Below w2.heap.size w2 w9) := m9
        clear y9 x9 hU hL hbs m9
        go_wp2_with fail
        refine (KP.out _ _ HBS.out M9.out).mono ?_
        rintro e w5 ⟨ty5, yy5, rfl, hJ⟩
        have HJ : Hid (OI l w (k + 1) (.iface ty5 yy5) w5) := hJ
        clear hJ KP HBS M9
        go_wp2_with fail
        rw [e5.out]
        exact ⟨⟨k + 1, hlt, rfl, HJ.out⟩, hms⟩
      · have hm' : oe l = mp nk nv := by
          have h0 := oe_at l k hkl HI1.out.ok (by rw [← HR.out]; show mp kb.length vb.length ≠ 0; rw [← HNK.out, ← HNV.out]; exact hm)
          rw [h0, ← HR.out]
          show mp kb.length vb.length = _
          rw [← HNK.out, ← HNV.out]
        have hOG : Hid (OR l Nd.no) := by show OR _ _; unfold OR; rw [hm', if_neg hm]
        have HB : Hid (Below w.heap.size w w1) := HI1.out.b
        have hbv := HI1.out.v
        have hne : (mp nk nv == 0) = false := beq_eq_false_iff_ne.2 hm
        have HOE : Hid (oe l = mp nk nv) := hm'
        clear HR HKB HVB HNK HNV HI1 hm hn hk hkl HL hm' I0 e5 hms
        generalize mp nk nv = er at *
        go_wp2_with fail
        refine (KM.out _).mono ?_
        rintro e w2 ⟨rfl, rfl⟩
        go_wp2_with (refine wpList_st4 rfl rfl rfl rfl hbv ?_; intro w9 gb9 s0 s1 s2 s3)
        have B9 : Below w.heap.size w w9 := HB.out.grown gb9 HB.out.size (fun k e => by injection e with e; omega)
        exact bodyPost_ret (v := .tuple #[.agg #[.int .i64 0, .slice none 0 0, .slice none 0 0, .slice none 0 0], .int .i64 er]) (resN2 _ _ _ w.heap.size 2 3 _ _ _ _ _ rfl rfl rfl s0 s1 s2 s3) rfl ⟨Nd.no, (.int .i64 0, .slice none 0 0, .slice none 0 0, .slice none 0 0), by rw [HOE.out]; rfl, Nv_no _ _, hOG.out, B9⟩
    · have ek : k = n := by omega
      subst ek
      have d0 : decide ((k : Int) < (k : Int)) = false := decide_eq_false (by omega)
      have hne := hn.out
      obtain ⟨⟨t, hin, hrs, hgt⟩, ok, b, v⟩ := HI.out
      rw [List.take_of_length_le (by omega)] at ok hgt
      have ho0 : oe l = 0 := oe_zero l ok
      have hln := vl_ln ok
      have hOG : Hid (OR l (bn t)) := by show OR _ _; unfold OR; rw [if_pos ho0]; exact ⟨t, rfl, hrs, hgt⟩
      have KQ : Hid (Inv "lampbearer/tree.plain" (.iface ty yy) #[] wr (PN wr (bn t))) := plain_all (N := 64) (M := 1024) hin (by omega) (by omega) hrs (fun q hq => hln.1 q (by rw [← hgt q]; exact hq)) (fun q => by rw [hgt q]; exact hln.2 q) wr (Below.refl _ _)
      have HB : Hid (Below w.heap.size w wr) := b
      have HV : Hid (B4 w.heap.size wr) := v
      have HOE : Hid (oe l = 0) := ho0
      clear HI hin hrs hgt ok b v hln ho0 HP hn hne HL hk hlt I0
      go_wp2_with fail
      refine upon_inv (by simp only [callMethod]; go_simp) KQ.out ?_
      rintro e w5 ⟨u, rfl, hn5, hb5⟩
      obtain ⟨uk, ua1, un1, uc1, ua2, un2, uc2, ua3, un3, uc3, rfl⟩ := Nv_form hn5
      have hbv5 : B4 w.heap.size w5 := B4_gb (r := none) HV.out (gb_below hb5) (fun e => by cases e)
      have HZ5 : Hid (Below w.heap.size w w5) := HB.out.trans (hb5.mono HB.out.size)
      have HG4 : Hid (w.heap.size < wr.heap.size) := HV.out.hi
      have HN5 : Hid (Nv (wr.heap.size ≤ ·) w5 (bn t) (.int .i64 uk, .slice ua1 un1 uc1, .slice ua2 un2 uc2, .slice ua3 un3 uc3)) := hn5
      clear hn5 hb5 HB HV KQ
      refine ⟨_, rfl, ?_⟩
      simp only [Act.put, v4]
      go_wp2_with (refine wpList_st4 rfl rfl rfl rfl hbv5 ?_; intro w9 gb9 s0 s1 s2 s3)
      have B9 : Below w.heap.size w w9 := HZ5.out.grown gb9 HZ5.out.size (fun k e => by injection e with e; omega)
      have N9 : Nv (w.heap.size ≤ ·) w9 (bn t) (.int .i64 uk, .slice ua1 un1 uc1, .slice ua2 un2 uc2, .slice ua3 un3 uc3) :=
        Nv_mono (Nv_gb HN5.out gb9 (fun k hk e => by injection e with e; have := HG4.out; omega)) (fun k hk _ => by have := HG4.out; omega)
      exact bodyPost_ret (v := .tuple #[.agg #[.int .i64 uk, .slice ua1 un1 uc1, .slice ua2 un2 uc2, .slice ua3 un3 uc3], .int .i64 0]) (resN2 _ _ _ w.heap.size 2 3 _ _ _ _ _ rfl rfl rfl s0 s1 s2 s3) rfl ⟨bn t, (.int .i64 uk, .slice ua1 un1 uc1, .slice ua2 un2 uc2, .slice ua3 un3 uc3), by rw [HOE.out]; rfl, N9, hOG.out, B9⟩
end Tr
end Go.Proofs.Ytdcbgldelfhohab
/- lampbearerref.SamePairs. -/
namespace Go.Proofs.Ytdcbgldelfhohab
namespace Tr
open Nb Go.RowKit
set_option maxHeartbeats 1000000 in
set_option maxRecDepth 100000 in
theorem sp1_any (S T : Nat → Prop) (r q : By × By) (k1 v1 k2 v2 : Option Addr) (a1 c1 b1 e1 a2 c2 b2 e2 : Nat) (w : World) (hk1 : Bs S r.1 (.slice k1 a1 c1) w) (hv1 : Bs S r.2 (.slice v1 b1 e1) w) (hk2 : Bs T q.1 (.slice k2 a2 c2) w) (hv2 : Bs T q.2 (.slice v2 b2 e2) w) :
    Calls Try.prog 27 #[.agg #[.slice k1 a1 c1, .slice v1 b1 e1], .agg #[.slice k2 a2 c2, .slice v2 b2 e2]] w fun e w' => e = .returned (.bool (decide (r = q))) ∧ Below w.heap.size w w' := by
  have bA : Below w.heap.size w ((w.alloc (.cells #[.slice k1 a1 c1, .slice v1 b1 e1] 41)).alloc (.cells #[.slice k2 a2 c2, .slice v2 b2 e2] 41)) := ((Below.refl _ _).alloc (Nat.le_refl _) _).alloc (by simp) _
  have x1 := Sl_st (Bs_sl (Bs_below hk1 bA))
  have x2 := Sl_st (Bs_sl (Bs_below hv1 bA))
  have x3 := Sl_st (Bs_sl (Bs_below hk2 bA))
  have x4 := Sl_st (Bs_sl (Bs_below hv2 bA))
  have HA := heap_alloc_new w (.cells #[.slice k1 a1 c1, .slice v1 b1 e1] 41)
  have HB := heap_alloc_new (w.alloc (.cells #[.slice k1 a1 c1, .slice v1 b1 e1] 41)) (.cells #[.slice k2 a2 c2, .slice v2 b2 e2] 41)
  have hs1 : (w.alloc (.cells #[.slice k1 a1 c1, .slice v1 b1 e1] 41)).heap.size = w.heap.size + 1 := by simp
  have bB : Below (w.heap.size + 1) (w.alloc (.cells #[.slice k1 a1 c1, .slice v1 b1 e1] 41)) ((w.alloc (.cells #[.slice k1 a1 c1, .slice v1 b1 e1] 41)).alloc (.cells #[.slice k2 a2 c2, .slice v2 b2 e2] 41)) := (Below.refl _ _).alloc (by omega) _
  have q0 : ((w.alloc (.cells #[.slice k1 a1 c1, .slice v1 b1 e1] 41)).alloc (.cells #[.slice k2 a2 c2, .slice v2 b2 e2] 41)).cell? ⟨w.heap.size, 0, none⟩ = some (.slice k1 a1 c1) := (bB.cell (p := ⟨w.heap.size, 0, none⟩) (by show w.heap.size < _; omega)).trans (by simp only [World.cell?, HA]; rfl)
  have q1 : ((w.alloc (.cells #[.slice k1 a1 c1, .slice v1 b1 e1] 41)).alloc (.cells #[.slice k2 a2 c2, .slice v2 b2 e2] 41)).cell? ⟨w.heap.size, 1, none⟩ = some (.slice v1 b1 e1) := (bB.cell (p := ⟨w.heap.size, 1, none⟩) (by show w.heap.size < _; omega)).trans (by simp only [World.cell?, HA]; rfl)
  have q2 : ((w.alloc (.cells #[.slice k1 a1 c1, .slice v1 b1 e1] 41)).alloc (.cells #[.slice k2 a2 c2, .slice v2 b2 e2] 41)).cell? ⟨w.heap.size + 1, 0, none⟩ = some (.slice k2 a2 c2) := by rw [hs1] at HB; simp only [World.cell?, HB]; rfl
  have q3 : ((w.alloc (.cells #[.slice k1 a1 c1, .slice v1 b1 e1] 41)).alloc (.cells #[.slice k2 a2 c2, .slice v2 b2 e2] 41)).cell? ⟨w.heap.size + 1, 1, none⟩ = some (.slice v2 b2 e2) := by rw [hs1] at HB; simp only [World.cell?, HB]; rfl
  have HBB : Hid (Below w.heap.size w ((w.alloc (.cells #[.slice k1 a1 c1, .slice v1 b1 e1] 41)).alloc (.cells #[.slice k2 a2 c2, .slice v2 b2 e2] 41))) := bA
  have s1 := st_eq r.1 q.1
  have s2 := st_eq r.2 q.2
  have HD : Hid (decide (r = q) = (decide (r.1 = q.1) && decide (r.2 = q.2))) := by
    obtain ⟨r1, r2⟩ := r
    obtain ⟨t1, t2⟩ := q
    show _ = _
    simp [Prod.mk.injEq]
  clear bA HA HB bB hs1 hk1 hv1 hk2 hv2
  generalize Tr.st r.1 = X1 at *
  generalize Tr.st r.2 = X2 at *
  generalize Tr.st q.1 = Y1 at *
  generalize Tr.st q.2 = Y2 at *
  cases h1 : decide (r.1 = q.1) with
  | true =>
    rw [h1] at HD s1
    generalize hz : decide (r.2 = q.2) = Z at *
    clear h1 hz
    go_enter Try.func27, Try.ntmps27
    go_wp2_with fail
    go_ret
    exact ⟨by rw [HD.out]; rfl, HBB.out⟩
  | false =>
    rw [h1] at HD s1
    clear h1 s2
    go_enter Try.func27, Try.ntmps27
    go_wp2_with fail
    go_ret
    exact ⟨by rw [HD.out]; rfl, HBB.out⟩
theorem rt_ext {a b : Rt} (hl : a.length = b.length) (h : ∀ j, j < a.length → a.getD j n2 = b.getD j n2) : a = b := by
  apply List.ext_getElem hl
  intro i h1 h2
  have := h i h1
  rwa [List.getD_eq_getElem?_getD, List.getD_eq_getElem?_getD, List.getElem?_eq_getElem h1, List.getElem?_eq_getElem h2] at this
set_option maxHeartbeats 1000000 in
set_option maxRecDepth 100000 in
theorem eqp_len (a1 a2 : Option Addr) (n1 c1 n2 c2 : Nat) (w : World) (h : n1 ≠ n2) :
    Calls Try.prog 26 #[.slice a1 n1 c1, .slice a2 n2 c2, .func (.func 27) #[] #[]] w fun e w' => e = .returned (.bool false) ∧ Below w.heap.size w w' := by
  have d0 : ((n1 : Int) != (n2 : Int)) = true := bne_iff_ne.2 (by omega)
  have d1 : (n1 != n2) = true := bne_iff_ne.2 h
  have B : Hid (Below w.heap.size w w) := Below.refl _ _
  go_enter Try.func26, Try.ntmps26
  go_wp2_with fail
  go_ret
  exact ⟨rfl, B.out⟩
set_option maxHeartbeats 2000000 in
set_option maxRecDepth 100000 in
theorem eqp_any (S T : Nat → Prop) (l m : Rt) (x1 x2 : Option Addr) (n y1 y2 : Nat) (w : World) (hn : Hid (n = l.length)) (hn2 : Hid (n = m.length)) (hp : Hid (Pv S l (.slice x1 n y1) w)) (hp2 : Hid (Pv T m (.slice x2 n y2) w)) (hz : Hid (n ≤ 4194304)) :
    Calls Try.prog 26 #[.slice x1 n y1, .slice x2 n y2, .func (.func 27) #[] #[]] w fun e w' => e = .returned (.bool (decide (l = m))) ∧ Below w.heap.size w w' := by
  have d0 : ((n : Int) != (n : Int)) = false := by simp
  go_enter Try.func26, Try.ntmps26
  go_wp2_with fail
  go_loopw [17] (fun i wr => ∃ k : Nat, k ≤ n ∧ i = .int .i64 (k : Int) ∧ (∀ j, j < k → l.getD j Tr.n2 = m.getD j Tr.n2) ∧ Below w.heap.size w wr) (fun i _ => ((n : Int) - intOf i).toNat)
  case atStart => exact ⟨0, Nat.zero_le _, rfl, fun j hj => absurd hj (by omega), Below.refl _ _⟩
  case round =>
    obtain ⟨k, hkn, rfl, hall, hB⟩ := hrel
    by_cases hlt : k < n
    · have d0 : decide ((k : Int) < (n : Int)) = true := decide_eq_true (by omega)
      have d1 : (0 : Int) ≤ (k : Int) := by omega
      have d2 : (k : Int) < (n : Int) := by omega
      have hks : k < l.length := by have := hn.out; omega
      have hjs : k < m.length := by have := hn2.out; omega
      obtain ⟨g, off, kv1, vv1, rfl, -, hg, z0, z1, i1, i2⟩ := Pv_at hp.out hks
      obtain ⟨g2, off2, kv2, vv2, rfl, -, hg2, t0, t1, j1, j2⟩ := Pv_at hp2.out hjs
      replace z0 := (hB.cell (p := ⟨g, off + 2 * k, none⟩) hg).trans z0
      replace z1 := (hB.cell (p := ⟨g, off + 2 * k + 1, none⟩) hg).trans z1
      replace t0 := (hB.cell (p := ⟨g2, off2 + 2 * k, none⟩) hg2).trans t0
      replace t1 := (hB.cell (p := ⟨g2, off2 + 2 * k + 1, none⟩) hg2).trans t1
      rw [Nat.mul_comm 2 k] at z0 z1 t0 t1
      have hgk2 : g < wr.heap.size := Nat.lt_of_lt_of_le hg hB.size
      have hgj2 : g2 < wr.heap.size := Nat.lt_of_lt_of_le hg2 hB.size
      obtain ⟨k1, c1, rfl, _⟩ := Bs_form i1
      obtain ⟨v1, e1, rfl, _⟩ := Bs_form i2
      obtain ⟨k2, c2, rfl, _⟩ := Bs_form j1
      obtain ⟨v2, e2, rfl, _⟩ := Bs_form j2
      have HF : Hid (decide (l.getD k Tr.n2 = m.getD k Tr.n2) = false → decide (l = m) = false) := fun h => decide_eq_false (fun e => by subst e; exact absurd rfl (of_decide_eq_false h))
      have HT : Hid (decide (l.getD k Tr.n2 = m.getD k Tr.n2) = true → ∀ j, j < k + 1 → l.getD j Tr.n2 = m.getD j Tr.n2) := fun h j hj => by
        rcases Nat.lt_or_ge j k with h1 | h1
        · exact hall j h1
        · have e : j = k := by omega
          rw [e]; exact of_decide_eq_true h
      have e5 : Hid (wrap64 ((k : Int) + 1) = ((k + 1 : Nat) : Int)) := by have := hz.out; show _ = _; unfold wrap64; omega
      have hms := msr_up k n hlt
      generalize hr : l.getD k Tr.n2 = r at *
      generalize hq : m.getD k Tr.n2 = q at *
      generalize r.1.length = a1 at *
      generalize r.2.length = b1 at *
      generalize q.1.length = a2 at *
      generalize q.2.length = b2 at *
      have bA : Below wr.heap.size wr ((wr.alloc (.cells #[.slice k1 a1 c1, .slice v1 b1 e1] 41)).alloc (.cells #[.slice k2 a2 c2, .slice v2 b2 e2] 41)) := ((Below.refl _ _).alloc (Nat.le_refl _) _).alloc (by simp) _
      have bw : Below w.heap.size w ((wr.alloc (.cells #[.slice k1 a1 c1, .slice v1 b1 e1] 41)).alloc (.cells #[.slice k2 a2 c2, .slice v2 b2 e2] 41)) := hB.trans (bA.mono hB.size)
      have KB : Hid (∀ W : World, W = ((wr.alloc (.cells #[.slice k1 a1 c1, .slice v1 b1 e1] 41)).alloc (.cells #[.slice k2 a2 c2, .slice v2 b2 e2] 41)) → Calls Try.prog 27 #[.agg #[.slice k1 a1 c1, .slice v1 b1 e1], .agg #[.slice k2 a2 c2, .slice v2 b2 e2]] W fun e w' => e = .returned (.bool (decide (r = q))) ∧ Below w.heap.size w w') := fun W ew => by
        subst ew
        refine (sp1_any S T r q k1 v1 k2 v2 a1 c1 b1 e1 a2 c2 b2 e2 _ (Bs_below i1 bw) (Bs_below i2 bw) (Bs_below j1 bw) (Bs_below j2 bw)).mono fun e w' he => ⟨he.1, bw.trans (he.2.mono bw.size)⟩
      clear i1 i2 j1 j2 bA bw hall hr hq hks hjs hg hg2 hB hp hp2
      go_wp2_with fail
      refine (KB.out _ rfl).mono (fun e w5 he => ?_)
      obtain ⟨rfl, b5⟩ := he
      have B5 : Hid (Below w.heap.size w w5) := b5
      clear KB z0 z1 t0 t1 b5
      cases hb : decide (r = q) with
      | true =>
        have HT2 : Hid (∀ j, j < k + 1 → l.getD j Tr.n2 = m.getD j Tr.n2) := HT.out hb
        clear hb HT HF
        go_wp2_with fail
        rw [e5.out]
        exact ⟨⟨k + 1, hlt, rfl, HT2.out, B5.out⟩, hms⟩
      | false =>
        have hf : Hid (decide (l = m) = false) := HF.out hb
        clear hb HT HF
        go_wp2_with fail
        go_ret
        exact ⟨by rw [hf.out]; rfl, B5.out⟩
    · have d0 : decide ((k : Int) < (n : Int)) = false := decide_eq_false (by omega)
      have hs : Hid (decide (l = m) = true) := decide_eq_true (rt_ext (by have := hn.out; have := hn2.out; omega) (fun j hj => hall j (by have := hn.out; omega)))
      have BF : Hid (Below w.heap.size w wr) := hB
      clear hall hB
      go_wp2_with fail
      go_ret
      exact ⟨by rw [hs.out]; rfl, BF.out⟩
set_option maxHeartbeats 1000000 in
set_option maxRecDepth 100000 in
theorem samep_any {S T : Nat → Prop} {l m : Rt} {u v : Value} {w : World} (hl : Pv S l u w) (hm : Pv T m v w) (hz : l.length ≤ 4194304) : Calls Try.prog 13 #[u, v] w fun e w' => e = .returned (.bool (decide (l = m))) ∧ Below w.heap.size w w' := by
  obtain ⟨x1, y1, rfl, _⟩ := Pv_form hl
  obtain ⟨x2, y2, rfl, _⟩ := Pv_form hm
  have KE : Hid (Calls Try.prog 26 #[.slice x1 l.length y1, .slice x2 m.length y2, .func (.func 27) #[] #[]] w fun e w' => e = .returned (.bool (decide (l = m))) ∧ Below w.heap.size w w') := by
    by_cases e : l.length = m.length
    · have hm2 : Pv T m (.slice x2 l.length y2) w := by rw [e]; exact hm
      have := eqp_any S T l m x1 x2 l.length y1 y2 w rfl e hl hm2 hz
      rwa [← e]
    · rw [decide_eq_false (fun h => e (by rw [h]))]
      exact eqp_len x1 x2 _ y1 _ y2 w e
  clear hl hm
  generalize l.length = n at *
  generalize m.length = n' at *
  generalize decide (l = m) = B at *
  go_enter Try.func13, Try.ntmps13
  go_wp2_with fail
  refine KE.out.mono ?_
  rintro e w5 ⟨rfl, hb⟩
  have HB : Hid (Below w.heap.size w w5) := hb
  clear hb
  go_wp2_with fail
  go_ret
  exact ⟨rfl, HB.out⟩
end Tr
end Go.Proofs.Ytdcbgldelfhohab
/- The law TreePuts, over what slices.SortFunc does. -/
namespace Go.Proofs.Ytdcbgldelfhohab
namespace Tr
open Nb Go.RowKit
theorem rt_less {t : Nd} {l : Rt} (h : rt t = some l) : l.length + 1 ≤ wn t := by
  cases t with
  | mk k p v ks =>
    unfold rt at h
    split at h
    · cases h
    split at h
    · cases h
      unfold wn
      rw [List.length_nil]; omega
    split at h
    · cases h
      unfold wn
      rw [List.length_singleton]; omega
    split at h
    · rename_i h2
      obtain ⟨t, rfl⟩ := List.length_eq_one_iff.1 h2.2
      rw [rt0] at h
      cases ha : rt t with
      | none => rw [ha] at h; cases h
      | some a =>
        rw [ha] at h
        cases h
        have := rt_count (wf_any t) a ha
        unfold wn wnk wnk
        rw [pre_len']; omega
    split at h
    · cases ha : rtk 0 ks with
      | none => rw [ha] at h; cases h
      | some a =>
        rw [ha] at h
        cases h
        have := rtk_count ks 0 a (fun j hj l hl => rt_count (wf_any _) l hl) ha
        unfold wn
        rw [List.length_append]
        split
        · rw [List.length_nil]; omega
        · rw [List.length_singleton]; omega
    · cases h
end Tr
end Go.Proofs.Ytdcbgldelfhohab
/- The law TreePuts, over what slices.SortFunc does. -/
namespace Go.Proofs.Ytdcbgldelfhohab
namespace Tr
open Nb Go.RowKit
theorem bns_len' : ∀ l : List Nd, (bns l).length = l.length
  | [] => rfl
  | t :: r => by rw [bns, List.length_cons, List.length_cons, bns_len' r]
theorem bns_at : ∀ (l : List Nd) (j : Nat), j < l.length → (bns l).getD j Nd.no = bn (l.getD j Nd.no)
  | [], j, h => absurd h (by simp)
  | t :: r, 0, _ => by rw [bns]; rfl
  | t :: r, j + 1, h => by
    rw [bns, List.getD_cons_succ, List.getD_cons_succ]
    exact bns_at r j (by simpa using h)
theorem sm_nil (k : Int) (p v : By) : Sm (.mk k p v []) := .mk k p v [] (by simp) (fun j hj => absurd hj (by simp))
theorem sm_bn {t : Nd} (h : Rs t) : Sm (bn t) := by
  induction h with
  | none p v ks => simp only [bn]; exact sm_nil _ _ _
  | leaf p v ks hp hv => simp only [bn]; exact sm_nil _ _ _
  | road p v t hp h0 hk h ih =>
    have e : bn (.mk 2 p v [t]) = .mk 2 p [] [bn t] := by simp [bn, bns]
    rw [e]
    refine .mk 2 p [] [bn t] (by simp) (fun j hj => ?_)
    have : j = 0 := by simpa using hj
    subst this
    exact ih
  | fork p v ks hl h h2 ih =>
    have e : bn (.mk 3 p v ks) = .mk 3 [] v (bns ks) := by simp [bn]
    rw [e]
    refine .mk 3 [] v (bns ks) (by rw [bns_len', hl]; omega) (fun j hj => ?_)
    rw [bns_len'] at hj
    rw [bns_at ks j hj]
    exact ih j (by omega)
theorem pr_sm {t : Nd} {b y : By} {r : Nd} (h : PR t b y r) : Sm r := by
  unfold PR at h
  split at h
  · obtain ⟨t', rfl, hr, _⟩ := h
    exact sm_bn hr
  · rw [h]; exact sm_nil _ _ _
end Tr
end Go.Proofs.Ytdcbgldelfhohab
/- tree.Pairs and lampbearerref.GPairs at every argument; the law TreePairs. -/
namespace Go.Proofs.Ytdcbgldelfhohab
namespace Tr
open Nb Go.RowKit
/-- What Pairs tells, and its error. -/
def prs (t : Nd) : Rt := if rd 0 t = true then ((rt t).getD []).map jp else []
def pz (t : Nd) : Int := if rd 0 t = true then 0 else 1
theorem prs_len {t : Nd} (hw : wn t ≤ 1048576) : (prs t).length ≤ 1048576 := by
  unfold prs
  split
  · cases h : rt t with
    | none => simp
    | some l =>
      have := rt_less h
      simp
      omega
  · simp
theorem okr_okp {l : Rt} (h : ∀ r ∈ l, Okr r.1 r.2) : Okp [] l := fun r hr => by
  have := h r hr
  rw [List.nil_append]
  exact ⟨this.2.1, this.1, this.2.2.2⟩
theorem tpairs_any (t : Nd) (S : Nat → Prop) (x : V4) (w : World) (hx : Nv S w t x) (hw : wn t ≤ 1048576) :
    Calls Try.prog 12 #[v4 x] w fun e w' => ∃ v, e = .returned (.tuple #[v, .int .i64 (pz t)]) ∧ Pv (w.heap.size ≤ ·) (prs t) v w' ∧ Below w.heap.size w w' := by
  have hx := Nv_mono (S' := (· < w.heap.size)) hx (fun k _ h => h)
  obtain ⟨k, a1, n1, c1, a2, m2, c2, a3, n3, c3, rfl⟩ := Nv_form hx
  have KR : ∀ wx : World, Below w.heap.size w wx → Calls Try.prog 17 #[.agg #[.int .i64 k, .slice a1 n1 c1, .slice a2 m2 c2, .slice a3 n3 c3], .int .i64 0] wx (RP w.heap.size 0 t wx) := fun wx h => (read_all w.heap.size (wf_any t)).1 0 (.int .i64 k, .slice a1 n1 c1, .slice a2 m2 c2, .slice a3 n3 c3) wx (by omega) (Nv_below hx h) h.size (by omega)
  cases hr : rd 0 t with
  | false =>
    have h1 : pz t = 1 := by unfold pz; rw [hr]; rfl
    have h2 : prs t = [] := by unfold prs; rw [hr]; rfl
    rw [h1, h2]
    refine (pairs_form k a1 a2 a3 n1 c1 m2 c2 n3 c3 w (fun wx h => (KR wx h).mono fun e w' he => ?_)).mono fun e w' he => ?_
    · obtain ⟨z, h1, _, h3⟩ := he
      rw [hr] at h1
      exact ⟨z, h1, h3⟩
    · exact ⟨_, he.1, Pv_nil _ _, he.2⟩
  | true =>
    have hR := (rd_right t).1 hr
    obtain ⟨l, hl, hok, _⟩ := (right_iff t).1 hR
    have h1 : pz t = 0 := by unfold pz; rw [hr]; rfl
    have h2 : prs t = l.map jp := by unfold prs; rw [hr, hl]; rfl
    rw [h1, h2]
    refine (pairs_value k a1 a2 a3 n1 c1 m2 c2 n3 c3 w w.heap.size t l (fun wx h => (KR wx h).mono fun e w' he => ?_) hR.1 hl (okr_okp hok) (by have := rt_less hl; show _ ≤ _; omega)).mono fun e w' he => he
    obtain ⟨z, h1, h2, h3⟩ := he
    rw [hr] at h1
    exact ⟨z, h1, In_mono (h2 hr) (fun _ _ => trivial), h3⟩
end Tr
end Go.Proofs.Ytdcbgldelfhohab
/- lampbearerkeep.alive7. -/
namespace Go.Proofs.Ytdcbgldelfhohab
namespace Tr
open Nb Go.RowKit
/-- Two pairs; what they come to. -/
def L7 : Rt := [([1, 2], [97]), ([1], [98])]
def R7 : Rt := [([0, 1], [98]), ([0, 1, 0, 2], [97])]
def T7 : Nd := bn (grow 65 R7)
theorem or7 {r : Nd} (h : OR L7 r) : r = T7 := by
  unfold OR at h
  rw [if_pos (by decide)] at h
  obtain ⟨t', rfl, hr, hu⟩ := h
  have hs : Srt R7 := by
    unfold Srt R7
    simp [less, Op.bytesLess]
  have hp : Pts R7 := fun r hr => by
    unfold R7 at hr
    simp only [List.mem_cons, List.not_mem_nil, or_false] at hr
    rcases hr with rfl | rfl <;> (unfold Pt; decide)
  have hvo : VO R7 := fun r hr => by
    unfold R7 at hr
    simp only [List.mem_cons, List.not_mem_nil, or_false] at hr
    rcases hr with rfl | rfl <;> simp
  obtain ⟨g1, g2⟩ := grow_spec 65 R7 (fun r hr => by
    unfold R7 at hr
    simp only [List.mem_cons, List.not_mem_nil, or_false] at hr
    rcases hr with rfl | rfl <;> decide) hs hp hvo
  refine uniq hr _ g1 (fun q => ?_)
  rw [hu q, g2 q]
  have e1 : hv [1, 2] = [0, 1, 0, 2] := by decide
  have e2 : hv [1] = [0, 1] := by decide
  unfold vl L7
  simp only [List.foldl_cons, List.foldl_nil, e1, e2]
  rfl
theorem k7 : ∃ p t, T7 = .mk 2 p [] [t] ∧ p = [0, 1] := by
  refine ⟨_, _, rfl, ?_⟩
  decide
theorem rd7 : rd 0 T7 = true := by decide +kernel
theorem gt7 : gt T7 (hv [1, 2]) = [97] := by decide +kernel
theorem wn7 : wn T7 ≤ 1048576 := by decide +kernel
theorem rt7 : (rt T7).map (·.length) = some 2 := by decide +kernel
theorem gans7 : gans T7 [1, 2] = ([97], 0) := by
  unfold gans
  rw [rd7, if_pos rfl, if_pos (by decide), gt7]
theorem prs7 : (prs T7).length = 2 := by
  unfold prs
  rw [rd7, if_pos rfl, List.length_map]
  have h := rt7
  cases hr : rt T7 with
  | none => rw [hr] at h; cases h
  | some l => rw [hr] at h; injection h
theorem pz7 : pz T7 = 0 := by unfold pz; rw [rd7]; rfl
theorem Bs_lit1 (W : World) (c : UInt8) (fz : Nat × Nat) : Bs (fun _ => True) [c] (.slice (some ⟨W.heap.size, 0, none⟩) 1 1) (W.alloc (.cells #[.int .u8 (c.toNat : Int)] 5 fz)) := by
  have HA := heap_alloc_new W (.cells #[.int .u8 (c.toNat : Int)] 5 fz)
  refine ⟨_, _, rfl, Nat.le_refl _, fun _ => ⟨W.heap.size, 0, rfl, trivial, by simp, fun j hj => ?_⟩⟩
  have : j = 0 := by simpa using hj
  subst this
  simp only [World.cell?, HA]
  rfl
theorem Bs_lit2 (W : World) (c d : UInt8) (fz : Nat × Nat) : Bs (fun _ => True) [c, d] (.slice (some ⟨W.heap.size, 0, none⟩) 2 2) (W.alloc (.cells #[.int .u8 (c.toNat : Int), .int .u8 (d.toNat : Int)] 5 fz)) := by
  have HA := heap_alloc_new W (.cells #[.int .u8 (c.toNat : Int), .int .u8 (d.toNat : Int)] 5 fz)
  refine ⟨_, _, rfl, Nat.le_refl _, fun _ => ⟨W.heap.size, 0, rfl, trivial, by simp, fun j hj => ?_⟩⟩
  have : j = 0 ∨ j = 1 := by simp at hj; omega
  rcases this with rfl | rfl
  · simp only [World.cell?, HA]
    rfl
  · simp only [World.cell?, HA]
    rfl
theorem alloc_b (W : World) (o : Obj) : Below W.heap.size W (W.alloc o) := (Below.refl _ _).alloc (Nat.le_refl _) _
theorem pv7 (w : World) : Pv (fun _ => True) L7 (.slice (some ⟨w.heap.size + 1 + 1 + 1 + 1, 0, none⟩) 2 2) (((((w.alloc (.cells #[.int .u8 1, .int .u8 2] 5)).alloc (.cells #[.int .u8 97] 5 (1, 2))).alloc (.cells #[.int .u8 1] 5)).alloc (.cells #[.int .u8 98] 5 (1, 2))).alloc (.cells #[.slice (some ⟨w.heap.size, 0, none⟩) 2 2, .slice (some ⟨w.heap.size + 1, 0, none⟩) 1 1, .slice (some ⟨w.heap.size + 1 + 1, 0, none⟩) 1 1, .slice (some ⟨w.heap.size + 1 + 1 + 1, 0, none⟩) 1 1] 41)) ∧ Below w.heap.size w (((((w.alloc (.cells #[.int .u8 1, .int .u8 2] 5)).alloc (.cells #[.int .u8 97] 5 (1, 2))).alloc (.cells #[.int .u8 1] 5)).alloc (.cells #[.int .u8 98] 5 (1, 2))).alloc (.cells #[.slice (some ⟨w.heap.size, 0, none⟩) 2 2, .slice (some ⟨w.heap.size + 1, 0, none⟩) 1 1, .slice (some ⟨w.heap.size + 1 + 1, 0, none⟩) 1 1, .slice (some ⟨w.heap.size + 1 + 1 + 1, 0, none⟩) 1 1] 41)) := by
  have k0 := Bs_lit2 w 1 2 (0, 0)
  have k1 := Bs_lit1 (w.alloc (.cells #[.int .u8 1, .int .u8 2] 5)) 97 (1, 2)
  have k2 := Bs_lit1 ((w.alloc (.cells #[.int .u8 1, .int .u8 2] 5)).alloc (.cells #[.int .u8 97] 5 (1, 2))) 1 (0, 0)
  have k3 := Bs_lit1 (((w.alloc (.cells #[.int .u8 1, .int .u8 2] 5)).alloc (.cells #[.int .u8 97] 5 (1, 2))).alloc (.cells #[.int .u8 1] 5)) 98 (1, 2)
  have s1 : (w.alloc (.cells #[.int .u8 1, .int .u8 2] 5)).heap.size = w.heap.size + 1 := by simp
  have s2 : ((w.alloc (.cells #[.int .u8 1, .int .u8 2] 5)).alloc (.cells #[.int .u8 97] 5 (1, 2))).heap.size = w.heap.size + 1 + 1 := by simp
  have s3 : (((w.alloc (.cells #[.int .u8 1, .int .u8 2] 5)).alloc (.cells #[.int .u8 97] 5 (1, 2))).alloc (.cells #[.int .u8 1] 5)).heap.size = w.heap.size + 1 + 1 + 1 := by simp
  have s4 : ((((w.alloc (.cells #[.int .u8 1, .int .u8 2] 5)).alloc (.cells #[.int .u8 97] 5 (1, 2))).alloc (.cells #[.int .u8 1] 5)).alloc (.cells #[.int .u8 98] 5 (1, 2))).heap.size = w.heap.size + 1 + 1 + 1 + 1 := by simp
  rw [s1] at k1
  rw [s2] at k2
  rw [s3] at k3
  have b1 := alloc_b w (.cells #[.int .u8 1, .int .u8 2] 5)
  have b2 := alloc_b (w.alloc (.cells #[.int .u8 1, .int .u8 2] 5)) (.cells #[.int .u8 97] 5 (1, 2))
  have b3 := alloc_b ((w.alloc (.cells #[.int .u8 1, .int .u8 2] 5)).alloc (.cells #[.int .u8 97] 5 (1, 2))) (.cells #[.int .u8 1] 5)
  have b4 := alloc_b (((w.alloc (.cells #[.int .u8 1, .int .u8 2] 5)).alloc (.cells #[.int .u8 97] 5 (1, 2))).alloc (.cells #[.int .u8 1] 5)) (.cells #[.int .u8 98] 5 (1, 2))
  have b5 := alloc_b ((((w.alloc (.cells #[.int .u8 1, .int .u8 2] 5)).alloc (.cells #[.int .u8 97] 5 (1, 2))).alloc (.cells #[.int .u8 1] 5)).alloc (.cells #[.int .u8 98] 5 (1, 2))) (.cells #[.slice (some ⟨w.heap.size, 0, none⟩) 2 2, .slice (some ⟨w.heap.size + 1, 0, none⟩) 1 1, .slice (some ⟨w.heap.size + 1 + 1, 0, none⟩) 1 1, .slice (some ⟨w.heap.size + 1 + 1 + 1, 0, none⟩) 1 1] 41)
  have HA := heap_alloc_new ((((w.alloc (.cells #[.int .u8 1, .int .u8 2] 5)).alloc (.cells #[.int .u8 97] 5 (1, 2))).alloc (.cells #[.int .u8 1] 5)).alloc (.cells #[.int .u8 98] 5 (1, 2))) (.cells #[.slice (some ⟨w.heap.size, 0, none⟩) 2 2, .slice (some ⟨w.heap.size + 1, 0, none⟩) 1 1, .slice (some ⟨w.heap.size + 1 + 1, 0, none⟩) 1 1, .slice (some ⟨w.heap.size + 1 + 1 + 1, 0, none⟩) 1 1] 41)
  rw [s4] at HA
  refine ⟨⟨[(.slice (some ⟨w.heap.size, 0, none⟩) 2 2, .slice (some ⟨w.heap.size + 1, 0, none⟩) 1 1), (.slice (some ⟨w.heap.size + 1 + 1, 0, none⟩) 1 1, .slice (some ⟨w.heap.size + 1 + 1 + 1, 0, none⟩) 1 1)], rfl, ⟨_, _, rfl, Nat.le_refl _, fun _ => ⟨w.heap.size + 1 + 1 + 1 + 1, 0, rfl, trivial, by simp, fun j hj => ?_⟩⟩, fun j hj => ?_⟩, ?_⟩
  · have : j = 0 ∨ j = 1 := by simp at hj; omega
    rcases this with rfl | rfl
    · simp only [World.cell?, HA]
      exact ⟨rfl, rfl⟩
    · simp only [World.cell?, HA]
      exact ⟨rfl, rfl⟩
  · have : j = 0 ∨ j = 1 := by simp [L7] at hj; omega
    rcases this with rfl | rfl
    · exact ⟨Bs_below (Bs_below (Bs_below (Bs_below k0 b2) b3) b4) b5, Bs_below (Bs_below (Bs_below k1 b3) b4) b5⟩
    · exact ⟨Bs_below (Bs_below k2 b4) b5, Bs_below k3 b5⟩
  · have e1 := b1.trans (b2.mono b1.size)
    have e2 := e1.trans (b3.mono e1.size)
    have e3 := e2.trans (b4.mono e2.size)
    exact e3.trans (b5.mono e3.size)
set_option maxHeartbeats 4000000 in
set_option maxRecDepth 100000 in
theorem alive7_any (w : World) : Calls Try.prog 7 #[] w fun e w' => e = .returned (.bool true) ∧ Below w.heap.size w w' := by
  have c1 : (convert 22 22 (.slice (some ⟨w.heap.size + 1, 0, none⟩) 1 1)).run Try.prog ((w.alloc (.cells #[.int .u8 1, .int .u8 2] 5)).alloc (.cells #[.int .u8 97] 5)) = .ok (.slice (some ⟨w.heap.size + 1, 0, none⟩) 1 1) ((w.alloc (.cells #[.int .u8 1, .int .u8 2] 5)).alloc (.cells #[.int .u8 97] 5 (1, 2))) := by
    have := Lib.run_convert_bytes_const (P := Try.prog) (w.alloc (.cells #[.int .u8 1, .int .u8 2] 5)) 22 5 #[.int .u8 97] 1 1 Try.underlying22 Try.underlying5
    rwa [show (w.alloc (.cells #[.int .u8 1, .int .u8 2] 5)).heap.size = w.heap.size + 1 by simp] at this
  have c2 : (convert 22 22 (.slice (some ⟨w.heap.size + 1 + 1 + 1, 0, none⟩) 1 1)).run Try.prog ((((w.alloc (.cells #[.int .u8 1, .int .u8 2] 5)).alloc (.cells #[.int .u8 97] 5 (1, 2))).alloc (.cells #[.int .u8 1] 5)).alloc (.cells #[.int .u8 98] 5)) = .ok (.slice (some ⟨w.heap.size + 1 + 1 + 1, 0, none⟩) 1 1) ((((w.alloc (.cells #[.int .u8 1, .int .u8 2] 5)).alloc (.cells #[.int .u8 97] 5 (1, 2))).alloc (.cells #[.int .u8 1] 5)).alloc (.cells #[.int .u8 98] 5 (1, 2))) := by
    have := Lib.run_convert_bytes_const (P := Try.prog) (((w.alloc (.cells #[.int .u8 1, .int .u8 2] 5)).alloc (.cells #[.int .u8 97] 5 (1, 2))).alloc (.cells #[.int .u8 1] 5)) 22 5 #[.int .u8 98] 1 1 Try.underlying22 Try.underlying5
    rwa [show (((w.alloc (.cells #[.int .u8 1, .int .u8 2] 5)).alloc (.cells #[.int .u8 97] 5 (1, 2))).alloc (.cells #[.int .u8 1] 5)).heap.size = w.heap.size + 1 + 1 + 1 by simp] at this
  obtain ⟨hpv, hb5⟩ := pv7 w
  have KO : Hid (Calls Try.prog 16 #[.slice (some ⟨w.heap.size + 1 + 1 + 1 + 1, 0, none⟩) 2 2] (((((w.alloc (.cells #[.int .u8 1, .int .u8 2] 5)).alloc (.cells #[.int .u8 97] 5 (1, 2))).alloc (.cells #[.int .u8 1] 5)).alloc (.cells #[.int .u8 98] 5 (1, 2))).alloc (.cells #[.slice (some ⟨w.heap.size, 0, none⟩) 2 2, .slice (some ⟨w.heap.size + 1, 0, none⟩) 1 1, .slice (some ⟨w.heap.size + 1 + 1, 0, none⟩) 1 1, .slice (some ⟨w.heap.size + 1 + 1 + 1, 0, none⟩) 1 1] 41)) fun e w' => ∃ u : V4, e = .returned (.tuple #[v4 u, .int .i64 0]) ∧ Nv (fun _ => True) w' T7 u ∧ Below w.heap.size w w') := by
    refine (of_any L7 _ 2 2 _ (Pv_mono hpv (fun _ _ h => h)) rfl (by show _ ≤ _; omega)).mono fun e w' he => ?_
    obtain ⟨r, u, h1, h2, h3, h4⟩ := he
    obtain rfl := or7 h3
    exact ⟨u, h1, Nv_mono h2 (fun _ _ _ => trivial), hb5.trans (h4.mono hb5.size)⟩
  clear hpv hb5
  go_enter Try.func7, Try.ntmps7
  go_wp2_with fail
  refine KO.out.mono ?_
  rintro e w1 ⟨u, rfl, hn1, hb1⟩
  obtain ⟨uk, ua1, un1, uc1, ua2, un2, uc2, ua3, un3, uc3, rfl⟩ := Nv_form hn1
  clear KO c1 c2
  have N1 := NB_new (Nv_mono (S' := (· < w1.heap.size)) hn1 (fun _ _ h => h)) (Nat.le_refl _)
  have R1 : Hid (NB w1.heap.size (.int .i64 uk, .slice ua1 un1 uc1, .slice ua2 un2 uc2, .slice ua3 un3 uc3) T7 w1.heap.size w1 (w1.alloc (.cells #[.int .i64 uk, .slice ua1 un1 uc1, .slice ua2 un2 uc2, .slice ua3 un3 uc3] 25))) := N1
  have HB1 : Hid (Below w.heap.size w w1) := hb1
  have hkk : uk = 2 := by
    obtain ⟨p, t, hT, _⟩ := k7
    rw [hT] at hn1
    cases hn1
    rfl
  subst hkk
  clear N1 hn1 hb1
  have q0 := R1.out.bx.2.1
  have q1 := R1.out.bx.2.2.1
  have q2 := R1.out.bx.2.2.2.1
  have q3 := R1.out.bx.2.2.2.2
  dsimp only at q0 q1 q2 q3
  simp only [v4]
  have sB : (w1.alloc (.cells #[.int .i64 2, .slice ua1 un1 uc1, .slice ua2 un2 uc2, .slice ua3 un3 uc3] 25)).heap.size = w1.heap.size + 1 := by simp
  have kb := Bs_lit2 (w1.alloc (.cells #[.int .i64 2, .slice ua1 un1 uc1, .slice ua2 un2 uc2, .slice ua3 un3 uc3] 25)) 1 2 (0, 0)
  rw [sB] at kb
  have bG := alloc_b (w1.alloc (.cells #[.int .i64 2, .slice ua1 un1 uc1, .slice ua2 un2 uc2, .slice ua3 un3 uc3] 25)) (.cells #[.int .u8 1, .int .u8 2] 5)
  have RG : NB w1.heap.size (.int .i64 2, .slice ua1 un1 uc1, .slice ua2 un2 uc2, .slice ua3 un3 uc3) T7 w1.heap.size w1 ((w1.alloc (.cells #[.int .i64 2, .slice ua1 un1 uc1, .slice ua2 un2 uc2, .slice ua3 un3 uc3] 25)).alloc (.cells #[.int .u8 1, .int .u8 2] 5)) := NB_below R1.out bG
  have KG : Hid (Calls Try.prog 10 #[.agg #[.int .i64 2, .slice ua1 un1 uc1, .slice ua2 un2 uc2, .slice ua3 un3 uc3], .slice (some ⟨w1.heap.size + 1, 0, none⟩) 2 2] ((w1.alloc (.cells #[.int .i64 2, .slice ua1 un1 uc1, .slice ua2 un2 uc2, .slice ua3 un3 uc3] 25)).alloc (.cells #[.int .u8 1, .int .u8 2] 5)) fun e w' => ∃ a c, e = .returned (.tuple #[.slice a 1 c, .int .i64 0]) ∧ Pk.Sl [97] (.slice a 1 c) w' ∧ NB w1.heap.size (.int .i64 2, .slice ua1 un1 uc1, .slice ua2 un2 uc2, .slice ua3 un3 uc3) T7 w1.heap.size w1 w') := by
    refine (get_any T7 ((w1.alloc (.cells #[.int .i64 2, .slice ua1 un1 uc1, .slice ua2 un2 uc2, .slice ua3 un3 uc3] 25)).alloc (.cells #[.int .u8 1, .int .u8 2] 5)).heap.size (.int .i64 2, .slice ua1 un1 uc1, .slice ua2 un2 uc2, .slice ua3 un3 uc3) ((w1.alloc (.cells #[.int .i64 2, .slice ua1 un1 uc1, .slice ua2 un2 uc2, .slice ua3 un3 uc3] 25)).alloc (.cells #[.int .u8 1, .int .u8 2] 5)) (Nv_mono RG.n (fun _ _ h => h)) (Nat.le_refl _) (by have := wn7; omega) [1, 2] _ (Bs_mono kb (fun _ _ h => h))).mono fun e w' he => ?_
    rw [gans7] at he
    obtain ⟨⟨a, c, h1, h2⟩, h3⟩ := he
    exact ⟨a, c, h1, Bs_sl h2, NB_below RG h3⟩
  clear sB kb bG RG
  go_wp2_with fail
  refine KG.out.mono ?_
  rintro e w2 ⟨ga, gc, rfl, hs2, hnb2⟩
  have R2 : Hid (NB w1.heap.size (.int .i64 2, .slice ua1 un1 uc1, .slice ua2 un2 uc2, .slice ua3 un3 uc3) T7 w1.heap.size w1 w2) := hnb2
  have S2 : Hid (Pk.Sl [97] (.slice ga 1 gc) w2) := hs2
  clear hs2 hnb2 R1 KG q0 q1 q2 q3
  have q0 := R2.out.bx.2.1
  have q1 := R2.out.bx.2.2.1
  have q2 := R2.out.bx.2.2.2.1
  have q3 := R2.out.bx.2.2.2.2
  dsimp only at q0 q1 q2 q3
  have KP : Hid (Calls Try.prog 12 #[.agg #[.int .i64 2, .slice ua1 un1 uc1, .slice ua2 un2 uc2, .slice ua3 un3 uc3]] w2 fun e w' => ∃ a c, e = .returned (.tuple #[.slice a 2 c, .int .i64 0]) ∧ Below w2.heap.size w2 w') := by
    refine (tpairs_any T7 _ (.int .i64 2, .slice ua1 un1 uc1, .slice ua2 un2 uc2, .slice ua3 un3 uc3) w2 R2.out.n wn7).mono fun e w' he => ?_
    rw [pz7] at he
    obtain ⟨v, h1, h2, h3⟩ := he
    obtain ⟨ao, cap, rfl, _⟩ := Pv_form h2
    rw [prs7] at h1
    exact ⟨ao, cap, h1, h3⟩
  go_wp2_with fail
  refine KP.out.mono ?_
  rintro e w3 ⟨pa, pc, rfl, hb3⟩
  have R3 : Hid (NB w1.heap.size (.int .i64 2, .slice ua1 un1 uc1, .slice ua2 un2 uc2, .slice ua3 un3 uc3) T7 w1.heap.size w1 w3) := NB_below R2.out hb3
  have S3 : (convert 22 9 (.slice ga 1 gc)).run Try.prog w3 = .ok (.string ⟨#[97]⟩) w3 := Sl_st (Pk.Sl_below S2.out hb3)
  clear hb3 R2 S2 KP q0 q1 q2 q3
  have q0 := R3.out.bx.2.1
  have q1 := R3.out.bx.2.2.1
  have q2 := R3.out.bx.2.2.2.1
  have q3 := R3.out.bx.2.2.2.2
  dsimp only at q0 q1 q2 q3
  have KT : Hid (Calls Try.prog 11 #[.agg #[.int .i64 2, .slice ua1 un1 uc1, .slice ua2 un2 uc2, .slice ua3 un3 uc3]] w3 fun e w' => e = .returned (.bool true) ∧ NB w1.heap.size (.int .i64 2, .slice ua1 un1 uc1, .slice ua2 un2 uc2, .slice ua3 un3 uc3) T7 w1.heap.size w1 w') := by
    refine (right_any T7 w1.heap.size (.int .i64 2, .slice ua1 un1 uc1, .slice ua2 un2 uc2, .slice ua3 un3 uc3) w3 R3.out.n R3.out.l (by have := wn7; omega)).mono fun e w' he => ?_
    rw [rd7] at he
    exact ⟨he.1, NB_below R3.out he.2⟩
  clear R3
  go_wp2_with fail
  refine KT.out.mono ?_
  rintro e w4 ⟨rfl, hnb4⟩
  have R4 : Hid (NB w1.heap.size (.int .i64 2, .slice ua1 un1 uc1, .slice ua2 un2 uc2, .slice ua3 un3 uc3) T7 w1.heap.size w1 w4) := hnb4
  clear hnb4 KT q0 q1 q2 q3 S3
  have q0 := R4.out.bx.2.1
  dsimp only at q0
  go_wp2_with fail
  go_ret
  exact ⟨rfl, HB1.out.trans (R4.out.b.mono HB1.out.size)⟩
end Tr
end Go.Proofs.Ytdcbgldelfhohab
/- read, Right, Get and Put where no path is too long. -/
namespace Go.Proofs.Ytdcbgldelfhohab
namespace Tr
open Nb Go.RowKit
/-- No path is too long. -/
inductive Lp : Nd → Prop where
  | mk (k : Int) (p v : By) (ks : List Nd) (hp : p.length ≤ 4194304) (h : ∀ j, j < ks.length → Lp (ks.getD j Nd.no)) : Lp (.mk k p v ks)
theorem lp_path {k : Int} {p v : By} {ks : List Nd} (h : Lp (.mk k p v ks)) : p.length ≤ 4194304 := by
  cases h with
  | mk _ _ _ _ hp _ => exact hp
theorem lp_kid {k : Int} {p v : By} {ks : List Nd} {j : Nat} (h : Lp (.mk k p v ks)) (hj : j < ks.length) : Lp (ks.getD j Nd.no) := by
  cases h with
  | mk _ _ _ _ _ hk => exact hk j hj
theorem lp_wn {t : Nd} (h : wn t ≤ 4194304) : Lp t := by
  have ht := wf_any t
  induction ht with
  | mk k p v ks _ ih => exact .mk k p v ks (by unfold wn at h; omega) (fun j hj => ih j hj (wn_kid h hj))
theorem lp_bn {t : Nd} (h : Rs t) : ∀ N, N ≤ 4194304 → Ln N t → Lp (bn t) := by
  induction h with
  | none p v ks => intro N _ _; simp only [bn]; exact .mk _ _ _ _ (by simp) (fun j hj => absurd hj (by simp))
  | leaf p v ks hp hv =>
    intro N hN hl
    have h1 := hl p (by rw [gt_leaf, if_pos rfl]; exact hv)
    simp only [bn]
    exact .mk _ _ _ _ (by omega) (fun j hj => absurd hj (by simp))
  | road p v t hp h0 hk h ih =>
    intro N hN hl
    have e : bn (.mk 2 p v [t]) = .mk 2 p [] [bn t] := by simp [bn, bns]
    have h1 : p.length ≤ N := pl_le (.road p v t hp h0 hk h) hl (by show (2 : Int) ≠ 3; decide) (by show (2 : Int) ≠ 0; decide)
    rw [e]
    refine .mk _ _ _ _ (by omega) (fun j hj => ?_)
    have : j = 0 := by simpa using hj
    subst this
    exact ih N hN (fun q hq => by
      have := hl (p ++ q) (by rw [gt_road_at]; exact hq)
      rw [List.length_append] at this
      omega)
  | fork p v ks hl16 h h2 ih =>
    intro N hN hl
    have e : bn (.mk 3 p v ks) = .mk 3 [] v (bns ks) := by simp [bn]
    rw [e]
    refine .mk _ _ _ _ (by simp) (fun j hj => ?_)
    rw [bns_len] at hj
    rw [bns_getD]
    exact ih j (by omega) N hN (ln_kid hl (by omega))
theorem read_lp (lo : Nat) {t : Nd} (ht : Wf t) :
    (∀ (h : Nat) (u : V4) (w : World), h ≤ 65 → Nv (· < lo) w t u → lo ≤ w.heap.size → Lp t → Calls Try.prog 17 #[v4 u, .int .i64 (h : Int)] w (RP lo h t w)) ∧
    (t.kind = 3 → ∀ (h : Nat) (u : V4) (w : World), Nv (· < lo) w t u → lo ≤ w.heap.size → Lp t → Calls Try.prog 32 #[v4 u, .int .i64 (h : Int)] w (FP lo h t w)) := by
  induction ht with
  | mk k p v ks _ ih =>
    have HF : k = 3 → ∀ (h : Nat) (u : V4) (w : World), Nv (· < lo) w (.mk k p v ks) u → lo ≤ w.heap.size → Lp (.mk k p v ks) → Calls Try.prog 32 #[v4 u, .int .i64 (h : Int)] w (FP lo h (.mk k p v ks) w) := by
      intro hk h u w hu hlo hw
      subst hk
      exact rfork_all lo h p v ks u w hu hlo (fun j hj h64 x wx hx hl => (ih j hj).1 (h + 1) x wx (by omega) hx hl (lp_kid hw hj))
    refine ⟨fun h u w h65 hu hlo hw => ?_, HF⟩
    have hu' := hu
    cases hu with
    | mk _ _ _ _ pv vv kv vs hp hv hl hk hi =>
      have hp' := hp
      have hv' := hv
      have sp := Bs_sl hp
      obtain ⟨a1, c1, rfl, -, -⟩ := hp
      obtain ⟨a2, c2, rfl, -, -⟩ := hv
      obtain ⟨a3, c3, rfl, -, hq⟩ := hk
      have hz : p.length ≤ 4194304 := lp_path hw
      obtain ⟨ax, cx, ex, -, vw⟩ := sp
      injection ex with e1 e2 e3
      subst e1
      by_cases k0 : k = 0
      · subst k0
        refine (read_none a1 a2 a3 _ c1 _ c2 _ c3 h w).mono fun e w' he => ⟨_, by rw [rd_zero]; exact he.1, fun _ => .none p v ks _, he.2⟩
      by_cases k1 : k = 1
      · subst k1
        cases hpt : ptb p with
        | true =>
          refine (read_leaf_ok a1 a2 a3 _ c1 _ c2 _ c3 h w p v rfl hz rfl (by omega) vw hpt).mono fun e w' he => ⟨_, by rw [rd_one, hpt, Bool.true_and]; exact he.1, fun _ => ?_, he.2⟩
          exact .leaf p v ks _ _ _ (Bs_lo (Bs_below hp' he.2)) (Bs_lo (Bs_below hv' he.2))
        | false => exact rp_bad (by rw [rd_one, hpt]; rfl) ((read_leaf_no a1 a2 a3 _ c1 _ c2 _ c3 h w p v rfl hz rfl (by omega) vw hpt).mono fun e w' he => ⟨⟨_, he.1⟩, he.2⟩)
      by_cases k2 : k = 2
      · subst k2
        show Calls Try.prog _ #[.agg #[.int .i64 2, _, _, _], _] w _
        refine read_road a1 a2 a3 _ c1 _ c2 _ c3 h w (rd h (.mk 2 p v ks)) (fun x w' => rd h (.mk 2 p v ks) = true → In lo w' (.mk 2 p v ks) x (fun y => w.heap.size ≤ y)) ?_
        intro wx hbx
        have vwx := Sp.Vw_below vw hbx
        have key : Calls Try.prog 31 #[.agg #[.int .i64 2, .slice a1 p.length c1, .slice a2 v.length c2, .slice a3 vs.length c3], .int .i64 (h : Int)] wx (RP lo h (.mk 2 p v ks) wx) := by
          by_cases p0 : p = []
          · subst p0
            exact rp_bad (by rw [rd_two]; simp) (rroad_empty a1 a2 a3 c1 _ c2 _ c3 h wx)
          have hp0 : 0 < p.length := List.length_pos_iff.2 p0
          cases hpt : ptb p with
          | false => exact rp_bad (by rw [rd_two, hpt]; simp) (rroad_path a1 a2 a3 _ c1 _ c2 _ c3 h wx p rfl hz hp0 vwx hpt)
          | true =>
            by_cases hk1 : ks.length = 1
            case neg => exact rp_bad (by rw [rd_two, decide_eq_false hk1]; simp) (rroad_kids a1 a2 a3 _ c1 _ c2 _ c3 h wx p rfl hz hp0 vwx hpt (by omega))
            obtain ⟨t, rfl⟩ := List.length_eq_one_iff.1 hk1
            have el : vs.length = 1 := hl
            obtain ⟨gk, off, rfl, hgl, hgk, hc⟩ := hq (by omega)
            obtain ⟨y0, y1, y2, y3⟩ := hc 0 (by omega)
            have hn := hi 0 (by simp)
            rw [List.getD_cons_zero] at hn
            obtain ⟨kk, b1, m1, d1, b2, m2, d2, b3, m3, d3, eF⟩ := Nv_form hn
            rw [eF] at y0 y1 y2 y3
            simp only [Nat.mul_zero, Nat.add_zero] at y0 y1 y2 y3
            have z0 := (hbx.cell (p := ⟨gk, off, none⟩) hgk).trans y0
            have z1 := (hbx.cell (p := ⟨gk, off + 1, none⟩) hgk).trans y1
            have z2 := (hbx.cell (p := ⟨gk, off + 2, none⟩) hgk).trans y2
            have z3 := (hbx.cell (p := ⟨gk, off + 3, none⟩) hgk).trans y3
            have hgx : gk < wx.heap.size := Nat.lt_of_lt_of_le hgk hbx.size
            have ekk : t.kind = kk := by
              rw [eF] at hn
              cases hn
              rfl
            rw [el]
            by_cases hkk : kk = 3
            case neg => exact rp_bad (by rw [rd_two, rd1, decide_eq_false (show ¬ t.kind = 3 by rw [ekk]; exact hkk)]; simp) (rroad_kind a1 a2 _ c1 _ c2 c3 h gk off wx p rfl hz hp0 vwx hpt kk hgx z0 hkk)
            subst hkk
            have er : rd h (.mk 2 p v [t]) = rd (h + p.length) t := by
              rw [rd_two, rd1, hpt, decide_eq_true (show p ≠ [] from p0), decide_eq_true ekk]
              simp
            have GBt : ∀ (x : Option Addr) (w1 w2 : World), (rd (h + p.length) t = true → ∃ g, x = some ⟨g, 0, none⟩ ∧ In lo w1 t (.iface 69 (.pointer (some ⟨g, 0, none⟩))) (fun y => wx.heap.size ≤ y)) → Below w1.heap.size w1 w2 → rd (h + p.length) t = true → ∃ g, x = some ⟨g, 0, none⟩ ∧ In lo w2 t (.iface 69 (.pointer (some ⟨g, 0, none⟩))) (fun y => wx.heap.size ≤ y) := fun x w1 w2 hx hb hr => by
              obtain ⟨g, h1, h2⟩ := hx hr
              exact ⟨g, h1, In_below h2 hb⟩
            have KF := (ih 0 (by simp)).2
            rw [List.getD_cons_zero] at KF
            refine (rroad_fork a1 a2 _ c1 _ c2 c3 h gk off wx p rfl hz hp0 vwx hpt (by omega) b1 b2 b3 m1 d1 m2 d2 m3 d3 hgx z0 z1 z2 z3 (rd (h + p.length) t) _ GBt ?_).mono fun e w' he => ?_
            · intro wy hby
              have hn2 : Nv (· < lo) wy t (.int .i64 3, .slice b1 m1 d1, .slice b2 m2 d2, .slice b3 m3 d3) := by
                rw [eF] at hn
                exact Nv_below (Nv_below hn hbx) hby
              refine (KF ekk (h + p.length) _ wy hn2 (Nat.le_trans hlo (Nat.le_trans hbx.size hby.size)) (by have := lp_kid (j := 0) hw (by simp); rwa [List.getD_cons_zero] at this)).mono fun e w' he => ?_
              obtain ⟨x, h1, h2, h3⟩ := he
              refine ⟨x, h1, fun hr => ?_, h3⟩
              obtain ⟨g, h4, h5⟩ := h2 hr
              exact ⟨g, h4, In_mono h5 (fun y hy => Nat.le_trans hby.size hy)⟩
            · obtain ⟨x, h1, h2, h3⟩ := he
              refine ⟨_, by rw [er]; exact h1, fun hr => ?_, h3⟩
              rw [er] at hr
              obtain ⟨g, rfl, h5⟩ := h2 hr
              exact .road p v t _ g _ (Bs_lo (Bs_below (Bs_below hp' hbx) h3)) h5
        refine key.mono fun e w' he => ?_
        obtain ⟨x, h1, h2, h3⟩ := he
        exact ⟨x, h1, fun hr => In_mono (h2 hr) (fun y hy => Nat.le_trans hbx.size hy), h3⟩
      by_cases k3 : k = 3
      · subst k3
        show Calls Try.prog _ #[.agg #[.int .i64 3, _, _, _], _] w _
        refine (read_fork a1 a2 a3 _ c1 _ c2 _ c3 h w (rd h (.mk 3 p v ks)) (fun x w' => rd h (.mk 3 p v ks) = true → ∃ g, x = some ⟨g, 0, none⟩ ∧ In lo w' (.mk 3 p v ks) (.iface 69 (.pointer (some ⟨g, 0, none⟩))) (fun y => w.heap.size ≤ y)) ?_).mono fun e w' he => ?_
        · intro wx hbx
          refine (HF rfl h _ wx (Nv_below hu' hbx) (Nat.le_trans hlo hbx.size) hw).mono fun e w' he => ?_
          obtain ⟨x, h1, h2, h3⟩ := he
          refine ⟨x, h1, fun hr => ?_, h3⟩
          obtain ⟨g, h4, h5⟩ := h2 hr
          exact ⟨g, h4, In_mono h5 (fun y hy => Nat.le_trans hbx.size hy)⟩
        · obtain ⟨x, h1, h2, h3⟩ := he
          refine ⟨_, h1, fun hr => ?_, h3⟩
          obtain ⟨g, rfl, h5⟩ := h2 hr
          exact h5
      · exact rp_bad (rd_else h k p v ks k0 k1 k2 k3) ((read_other k a1 a2 a3 _ c1 _ c2 _ c3 h w k0 k1 k2 k3).mono fun e w' he => ⟨⟨_, he.1⟩, he.2⟩)
set_option maxHeartbeats 1000000 in
set_option maxRecDepth 100000 in
theorem right_lp (t : Nd) (lo : Nat) (x : V4) (w : World) (hx : Nv (· < lo) w t x) (hlo : lo ≤ w.heap.size) (hw : Lp t) :
    Calls Try.prog 11 #[v4 x] w fun e w' => e = .returned (.bool (rd 0 t)) ∧ Below w.heap.size w w' := by
  obtain ⟨k, a1, n1, c1, a2, m2, c2, a3, n3, c3, rfl⟩ := Nv_form hx
  have N0 := NB_new hx hlo
  obtain ⟨_, q0, q1, q2, q3⟩ := N0.bx
  dsimp only at q0 q1 q2 q3
  have KR : Hid (∀ wx : World, NB w.heap.size (.int .i64 k, .slice a1 n1 c1, .slice a2 m2 c2, .slice a3 n3 c3) t lo w wx → Calls Try.prog 17 #[.agg #[.int .i64 k, .slice a1 n1 c1, .slice a2 m2 c2, .slice a3 n3 c3], .int .i64 0] wx fun e w' => ∃ y, e = .returned (.tuple #[y, .bool (rd 0 t)]) ∧ Below wx.heap.size wx w') := fun wx hn => by
    refine ((read_lp lo (wf_any t)).1 0 (.int .i64 k, .slice a1 n1 c1, .slice a2 m2 c2, .slice a3 n3 c3) wx (by omega) hn.n hn.l hw).mono fun e w' he => ?_
    obtain ⟨y, h1, _, h3⟩ := he
    exact ⟨y, h1, h3⟩
  have HN : Hid (NB w.heap.size (.int .i64 k, .slice a1 n1 c1, .slice a2 m2 c2, .slice a3 n3 c3) t lo w (w.alloc (.cells #[.int .i64 k, .slice a1 n1 c1, .slice a2 m2 c2, .slice a3 n3 c3] 25))) := N0
  clear N0 hx hlo hw
  show Calls Try.prog _ #[.agg #[.int .i64 k, .slice a1 n1 c1, .slice a2 m2 c2, .slice a3 n3 c3]] w _
  generalize rd 0 t = r at *
  go_enter Try.func11, Try.ntmps11
  go_wp2_with fail
  refine (KR.out _ HN.out).mono ?_
  rintro e w1 ⟨y, rfl, hb1⟩
  have HZ : Hid (Below w.heap.size w w1) := HN.out.b.trans (hb1.mono HN.out.b.size)
  clear hb1
  go_wp2_with fail
  go_ret
  exact ⟨rfl, HZ.out⟩
theorem get_lp (t : Nd) (lo : Nat) (x : V4) (w : World) (hx : Nv (· < lo) w t x) (hlo : lo ≤ w.heap.size) (hw : Lp t) (b : By) (kv : Value) (hb : Bs (· < lo) b kv w) :
    Calls Try.prog 10 #[v4 x, kv] w fun e w' => (∃ a c, e = .returned (.tuple #[.slice a (gans t b).1.length c, .int .i64 (gans t b).2]) ∧ Bs (Sb lo w') (gans t b).1 (.slice a (gans t b).1.length c) w') ∧ Below w.heap.size w w' := by
  obtain ⟨k, a1, n1, c1, a2, m2, c2, a3, n3, c3, rfl⟩ := Nv_form hx
  obtain ⟨ak, ck, rfl, hck⟩ := Bs_form hb
  have KR : ∀ wx : World, Below w.heap.size w wx → Calls Try.prog 17 #[.agg #[.int .i64 k, .slice a1 n1 c1, .slice a2 m2 c2, .slice a3 n3 c3], .int .i64 0] wx (RP lo 0 t wx) := fun wx h => (read_lp lo (wf_any t)).1 0 (.int .i64 k, .slice a1 n1 c1, .slice a2 m2 c2, .slice a3 n3 c3) wx (by omega) (Nv_below hx h) (Nat.le_trans hlo h.size) hw
  cases hr : rd 0 t with
  | false =>
    rw [gans_form hr]
    refine (get_form k a1 a2 a3 ak n1 c1 m2 c2 n3 c3 b.length ck w (fun wx h => (KR wx h).mono fun e w' he => ?_)).mono fun e w' he => ?_
    · obtain ⟨y, h1, _, h3⟩ := he
      rw [hr] at h1
      exact ⟨y, h1, h3⟩
    · exact ⟨⟨none, 0, he.1, Bs_nil _ _⟩, he.2⟩
  | true =>
    by_cases hk : b.length ≤ 32
    · rw [gans_val hr hk]
      have hR := (rd_right t).1 hr
      refine get_value k a1 a2 a3 ak n1 c1 m2 c2 n3 c3 b.length ck w lo (gt t (hv b)) (hv b) t (fun y => w.heap.size ≤ y) (fun wx h => (KR wx h).mono fun e w' he => ?_) hk (fun wx h => ?_) (fun ty yy kv wx hin hkv => ?_) (fun v wx hv => ?_)
      · obtain ⟨y, h1, h2, h3⟩ := he
        rw [hr] at h1
        exact ⟨y, h1, In_mono (h2 hr) (fun z hz => Nat.le_trans h.size hz), h3⟩
      · exact halves_bs (Bs_below hb h) (by omega)
      · exact get_all lo _ t _ _ _ _ wx (Nat.le_refl _) hin hR.1 hkv (pt_hv b)
      · refine (clone_bs hv (by have := gt_len hR (Nb.hv b); omega)).mono fun e w' he => ?_
        obtain ⟨v, h1, h2, h3⟩ := he
        obtain ⟨a, c, rfl, _⟩ := Bs_form h2
        exact ⟨a, c, h1, Bs_mono h2 (fun k hk _ => .inr hk.2), h3⟩
    · rw [gans_key hr hk]
      refine (get_key k a1 a2 a3 ak n1 c1 m2 c2 n3 c3 b.length ck w (fun wx h => (KR wx h).mono fun e w' he => ?_) hk).mono fun e w' he => ?_
      · obtain ⟨y, h1, _, h3⟩ := he
        rw [hr] at h1
        exact ⟨y, h1, h3⟩
      · exact ⟨⟨none, 0, he.1, Bs_nil _ _⟩, he.2⟩
theorem tput_lp (t : Nd) (S T T' : Nat → Prop) (x : V4) (w : World) (hx : Nv S w t x) (hw : Lp t) (b : By) (kv : Value) (hb : Bs T b kv w) (y : By) (yv : Value) (hy : Bs T' y yv w) :
    Calls Try.prog 8 #[v4 x, kv, yv] w fun e w' => ∃ (r : Nd) (u : V4), e = .returned (.tuple #[v4 u, .int .i64 (pe t b y)]) ∧ Nv (w.heap.size ≤ ·) w' r u ∧ PR t b y r ∧ Below w.heap.size w w' := by
  have hx := Nv_mono (S' := (· < w.heap.size)) hx (fun k _ h => h)
  have hb := Bs_mono (S' := (· < w.heap.size)) hb (fun k _ h => h)
  have hy := Bs_mono (S' := (· < w.heap.size)) hy (fun k _ h => h)
  obtain ⟨k, a1, n1, c1, a2, m2, c2, a3, n3, c3, rfl⟩ := Nv_form hx
  obtain ⟨ak, ck, rfl, _⟩ := Bs_form hb
  obtain ⟨av, cv, rfl, _⟩ := Bs_form hy
  have KR : ∀ wx : World, Below w.heap.size w wx → Calls Try.prog 17 #[.agg #[.int .i64 k, .slice a1 n1 c1, .slice a2 m2 c2, .slice a3 n3 c3], .int .i64 0] wx (RP w.heap.size 0 t wx) := fun wx h => (read_lp w.heap.size (wf_any t)).1 0 (.int .i64 k, .slice a1 n1 c1, .slice a2 m2 c2, .slice a3 n3 c3) wx (by omega) (Nv_below hx h) h.size hw
  cases hr : rd 0 t with
  | false =>
    have hp : pe t b y = 1 := by unfold pe; rw [hr]; rfl
    have hPR : PR t b y Nd.no := by unfold PR; rw [hp, if_neg (by decide)]
    rw [hp]
    refine (put_form k a1 a2 a3 ak av n1 c1 m2 c2 n3 c3 b.length ck y.length cv w (fun wx h => (KR wx h).mono fun e w' he => ?_)).mono fun e w' he => ?_
    · obtain ⟨z, h1, _, h3⟩ := he
      rw [hr] at h1
      exact ⟨z, h1, h3⟩
    · exact ⟨Nd.no, (.int .i64 0, .slice none 0 0, .slice none 0 0, .slice none 0 0), he.1, Nv_no _ _, hPR, he.2⟩
  | true =>
    have hp : pe t b y = mp b.length y.length := by unfold pe; rw [hr]; rfl
    by_cases hm : mp b.length y.length = 0
    · have hp0 : pe t b y = 0 := hp.trans hm
      have hR := (rd_right t).1 hr
      obtain ⟨l1, l2⟩ := mp_zero hm
      have hl := hv_len b
      refine (put_value k a1 a2 a3 ak av n1 c1 m2 c2 n3 c3 b.length ck y.length cv w (hv b) y t (fun wx h => (KR wx h).mono fun e w' he => ?_) (fun wx => ?_) (fun wx h => ?_) (fun z pv F wx hin hpv hbl => ?_) (fun t' z F wx hin hrs hup => ?_)).mono fun e w' he => ?_
      · obtain ⟨z, h1, h2, h3⟩ := he
        rw [hr] at h1
        exact ⟨z, h1, h2 hr, h3⟩
      · have := mayput_any ak av b.length ck y.length cv wx
        rwa [hm] at this
      · exact halves_bs (Bs_below hb h) (by omega)
      · exact put_all w.heap.size 64 (by omega) _ t (hv b) y z pv _ F wx (Nat.le_refl _) hin hR.1 (fun q hq => (hR.2 q hq).2.1) (by omega) hpv (Bs_lo (Bs_below hy hbl)) (pt_hv b) hbl.size
      · refine plain_all (N := 64) (M := 1024) hin (by omega) (by omega) hrs (fun q hq => ?_) (fun q => ?_) wx (Below.refl _ _)
        · rw [hup q] at hq
          split at hq
          · rename_i e; rw [e, hl]; omega
          · exact (hR.2 q hq).2.1
        · rw [hup q]
          split
          · exact l2
          · exact gt_len' hR q
      · obtain ⟨t', u, h1, h2, h3, h4, h5⟩ := he
        rw [hp0]
        exact ⟨bn t', u, h1, h2, by unfold PR; rw [if_pos hp0]; exact ⟨t', rfl, h3, h4⟩, h5⟩
    · have hPR : PR t b y Nd.no := by unfold PR; rw [hp, if_neg hm]
      rw [hp]
      refine (put_err k a1 a2 a3 ak av n1 c1 m2 c2 n3 c3 b.length ck y.length cv w (fun wx h => (KR wx h).mono fun e w' he => ?_) _ (beq_eq_false_iff_ne.2 hm) (fun wx => mayput_any ak av b.length ck y.length cv wx)).mono fun e w' he => ?_
      · obtain ⟨z, h1, _, h3⟩ := he
        rw [hr] at h1
        exact ⟨z, h1, h3⟩
      · exact ⟨Nd.no, (.int .i64 0, .slice none 0 0, .slice none 0 0, .slice none 0 0), he.1, Nv_no _ _, hPR, he.2⟩
mutual
theorem bn_bn' : ∀ t : Nd, bn (bn t) = bn t
  | .mk k p v ks => by
    have ih := bns_bns' ks
    by_cases h1 : k = 1
    · subst h1; simp [bn]
    by_cases h2 : k = 2
    · subst h2; simp [bn, ih]
    by_cases h3 : k = 3
    · subst h3; simp [bn, ih]
    simp [bn, h1, h2, h3]
theorem bns_bns' : ∀ l : List Nd, bns (bns l) = bns l
  | [] => by simp [bns]
  | t :: r => by simp [bns, bn_bn' t, bns_bns' r]
end
/-- A put that is done answers a tree, with what it should have. -/
theorem pr_ok {t : Nd} {b y : By} {r : Nd} (h : PR t b y r) (h0 : pe t b y = 0) : Right r ∧ (∀ q, gt r q = if q = hv b then y else gt t q) ∧ Right t ∧ b.length ≤ 32 ∧ y.length ≤ 1024 ∧ Lp r ∧ bn r = r := by
  have hr : rd 0 t = true := by
    unfold pe at h0
    split at h0
    · assumption
    · cases h0
  have hm : mp b.length y.length = 0 := by
    unfold pe at h0
    rw [if_pos hr] at h0
    exact h0
  have hR := (rd_right t).1 hr
  obtain ⟨l1, l2⟩ := mp_zero hm
  unfold PR at h
  rw [if_pos h0] at h
  obtain ⟨t', rfl, hs, hu⟩ := h
  have hln : Ln 64 t' := fun q hq => by
    rw [hu q] at hq
    split at hq
    · rename_i e; rw [e, hv_len]; omega
    · exact (hR.2 q hq).2.1
  refine ⟨⟨rs_bn hs _ (bn_bn' t'), fun q hq => ?_⟩, fun q => by rw [gt_bn]; exact hu q, hR, l1, l2, lp_bn hs 64 (by omega) hln, bn_bn' t'⟩
  rw [gt_bn] at hq ⊢
  rw [hu q] at hq ⊢
  split at hq
  · rename_i e
    rw [if_pos e]
    exact ⟨by rw [e, hv_len]; omega, by rw [e, hv_len]; omega, hq, l2⟩
  · rename_i e
    rw [if_neg e]
    exact hR.2 q hq
end Tr
end Go.Proofs.Ytdcbgldelfhohab
/- The law TreeGone. -/
namespace Go.Proofs.Ytdcbgldelfhohab
namespace Tr
open Nb Go.RowKit
/-- A node in a box. -/
def NX (h : Nat) (u : V4) (t : Nd) (w : World) : Prop := Bx h u w ∧ Nv (fun _ => True) w t u
theorem NX_below {h : Nat} {u : V4} {t : Nd} {w w' : World} (k : NX h u t w) (b : Below w.heap.size w w') : NX h u t w' := ⟨Bx_below k.1 b, Nv_below k.2 b⟩
theorem pe_zero {t : Nd} {b y : By} (h : Right t) (h1 : b.length ≤ 32) (h2 : y.length ≤ 1024) : pe t b y = 0 := by
  unfold pe mp
  rw [if_pos ((rd_right t).2 h), if_pos h1, if_pos h2]
theorem hv_inj {a b : By} (h : hv a = hv b) : a = b := by
  have := congrArg jn h
  rwa [jn_hv, jn_hv] at this
theorem sn_uniq {a b : Nd} (ha : Right a) (hb : Right b) (h : ∀ q, gt a q = gt b q) : sn a b = true := (sn_bn a b).2 (uniq ha.1 b hb.1 h)
set_option maxHeartbeats 8000000 in
set_option maxRecDepth 100000 in
theorem law_gone (t : Nd) (hs : Sm t) (x : V4) (w : World) (hx : Nv (· < w.heap.size) w t x) (hw : wn t ≤ 1048576) (k : By) (kv : Value) (hk : Bs (· < w.heap.size) k kv w) (y : By) (yv : Value) (hy : Bs (· < w.heap.size) y yv w) :
    Calls Try.prog 4 #[v4 x, kv, yv] w fun e w' => e = .returned (.bool true) ∧ Below w.heap.size w w' := by
  obtain ⟨zk, za1, zn1, zc1, za2, zn2, zc2, za3, zn3, zc3, rfl⟩ := Nv_form hx
  obtain ⟨kp, kc, rfl, _⟩ := Bs_form hk
  obtain ⟨yp, yc, rfl, _⟩ := Bs_form hy
  have LP : Hid (Lp t) := lp_wn (by omega)
  have bA : Below w.heap.size w (w.alloc (.cells #[.int .i64 zk, .slice za1 zn1 zc1, .slice za2 zn2 zc2, .slice za3 zn3 zc3] 25)) := (Below.refl _ _).alloc (Nat.le_refl _) _
  have Nt : Hid (NX w.heap.size (.int .i64 zk, .slice za1 zn1 zc1, .slice za2 zn2 zc2, .slice za3 zn3 zc3) t (w.alloc (.cells #[.int .i64 zk, .slice za1 zn1 zc1, .slice za2 zn2 zc2, .slice za3 zn3 zc3] 25))) := ⟨Bx_new w (.int .i64 zk, .slice za1 zn1 zc1, .slice za2 zn2 zc2, .slice za3 zn3 zc3), Nv_below (Nv_mono hx (fun _ _ _ => trivial)) bA⟩
  have Bk : Hid (Bs (fun _ => True) k (.slice kp k.length kc) (w.alloc (.cells #[.int .i64 zk, .slice za1 zn1 zc1, .slice za2 zn2 zc2, .slice za3 zn3 zc3] 25))) := Bs_below (Bs_mono hk (fun _ _ _ => trivial)) bA
  have By : Hid (Bs (fun _ => True) y (.slice yp y.length yc) (w.alloc (.cells #[.int .i64 zk, .slice za1 zn1 zc1, .slice za2 zn2 zc2, .slice za3 zn3 zc3] 25))) := Bs_below (Bs_mono hy (fun _ _ _ => trivial)) bA
  have HB : Hid (Below w.heap.size w (w.alloc (.cells #[.int .i64 zk, .slice za1 zn1 zc1, .slice za2 zn2 zc2, .slice za3 zn3 zc3] 25))) := bA
  clear bA hx hw hk hy
  have HSM : Hid (Sm t) := hs
  clear hs
  show Calls Try.prog _ #[.agg #[.int .i64 zk, .slice za1 zn1 zc1, .slice za2 zn2 zc2, .slice za3 zn3 zc3], .slice kp k.length kc, .slice yp y.length yc] w _
  go_enter Try.func4, Try.ntmps4
  go_wp2_with fail
  refine (alive7_any _).mono ?_
  rintro e w1 ⟨rfl, hb⟩
  replace Nt : Hid (NX (w.heap.size) (.int .i64 zk, .slice za1 zn1 zc1, .slice za2 zn2 zc2, .slice za3 zn3 zc3) (t) w1) := NX_below Nt.out hb
  replace Bk : Hid (Bs (fun _ => True) k (.slice kp k.length kc) w1) := Bs_below Bk.out hb
  replace By : Hid (Bs (fun _ => True) y (.slice yp y.length yc) w1) := Bs_below By.out hb
  replace HB : Hid (Below w.heap.size w w1) := HB.out.trans ((hb).mono HB.out.size)
  clear hb
  have KG : Hid (Calls Try.prog 10 #[.agg #[.int .i64 zk, .slice za1 zn1 zc1, .slice za2 zn2 zc2, .slice za3 zn3 zc3], .slice kp k.length kc] w1 fun e w' => (∃ a c, e = .returned (.tuple #[.slice a (gans t k).1.length c, .int .i64 (gans t k).2]) ∧ Bs (fun _ => True) (gans t k).1 (.slice a (gans t k).1.length c) w') ∧ Below w1.heap.size w1 w') := by
    refine (get_lp t w1.heap.size (.int .i64 zk, .slice za1 zn1 zc1, .slice za2 zn2 zc2, .slice za3 zn3 zc3) w1 (Nv_mono Nt.out.2 (fun _ _ h => h)) (Nat.le_refl _) LP.out k _ (Bs_mono Bk.out (fun _ _ h => h))).mono fun e w' he => ?_
    obtain ⟨⟨a, c, h1, h2⟩, h3⟩ := he
    exact ⟨⟨a, c, h1, Bs_mono h2 (fun _ _ _ => trivial)⟩, h3⟩
  have qt0 := Nt.out.1.2.1
  have qt1 := Nt.out.1.2.2.1
  have qt2 := Nt.out.1.2.2.2.1
  have qt3 := Nt.out.1.2.2.2.2
  dsimp only at qt0 qt1 qt2 qt3
  go_wp2_with fail
  refine (KG.out).mono ?_
  rintro e w2 ⟨⟨da, dc, rfl, hd⟩, hb⟩
  clear qt0 qt1 qt2 qt3
  obtain ⟨d, hde⟩ : ∃ d, d = (gans t k).1 := ⟨_, rfl⟩
  obtain ⟨ge, hge⟩ : ∃ ge, ge = (gans t k).2 := ⟨_, rfl⟩
  rw [← hde] at hd
  rw [← hde, ← hge]
  have HD : Hid (d = (gans t k).1) := hde
  have HG : Hid (ge = (gans t k).2) := hge
  clear KG hde hge
  replace Nt : Hid (NX (w.heap.size) (.int .i64 zk, .slice za1 zn1 zc1, .slice za2 zn2 zc2, .slice za3 zn3 zc3) (t) w2) := NX_below Nt.out hb
  replace Bk : Hid (Bs (fun _ => True) k (.slice kp k.length kc) w2) := Bs_below Bk.out hb
  replace By : Hid (Bs (fun _ => True) y (.slice yp y.length yc) w2) := Bs_below By.out hb
  replace HB : Hid (Below w.heap.size w w2) := HB.out.trans ((hb).mono HB.out.size)
  have Bd : Hid (Bs (fun _ => True) d (.slice da d.length dc) w2) := hd
  clear hd hb
  have KP : Hid (Calls Try.prog 8 #[.agg #[.int .i64 zk, .slice za1 zn1 zc1, .slice za2 zn2 zc2, .slice za3 zn3 zc3], .slice kp k.length kc, .slice yp y.length yc] w2 fun e w' => ∃ (r : Nd) (u : V4), e = .returned (.tuple #[v4 u, .int .i64 (pe (t) k y)]) ∧ Nv (w2.heap.size ≤ ·) w' r u ∧ PR (t) k y r ∧ Below w2.heap.size w2 w') := tput_lp (t) _ _ _ (.int .i64 zk, .slice za1 zn1 zc1, .slice za2 zn2 zc2, .slice za3 zn3 zc3) w2 Nt.out.2 (LP.out) k _ Bk.out y _ By.out
  have qt0 := Nt.out.1.2.1
  have qt1 := Nt.out.1.2.2.1
  have qt2 := Nt.out.1.2.2.2.1
  have qt3 := Nt.out.1.2.2.2.2
  dsimp only at qt0 qt1 qt2 qt3
  go_wp2_with fail
  refine (KP.out).mono ?_
  rintro e w3 ⟨rx, ux, rfl, hn, hpr, hb⟩
  clear qt0 qt1 qt2 qt3
  obtain ⟨xk, xa1, xn1, xc1, xa2, xn2, xc2, xa3, xn3, xc3, rfl⟩ := Nv_form hn
  have HPx : Hid (PR (t) k y rx) := hpr
  clear hpr KP
  simp only [v4]
  replace Nt : Hid (NX (w.heap.size) (.int .i64 zk, .slice za1 zn1 zc1, .slice za2 zn2 zc2, .slice za3 zn3 zc3) (t) w3) := NX_below Nt.out hb
  replace Bk : Hid (Bs (fun _ => True) k (.slice kp k.length kc) w3) := Bs_below Bk.out hb
  replace By : Hid (Bs (fun _ => True) y (.slice yp y.length yc) w3) := Bs_below By.out hb
  replace Bd : Hid (Bs (fun _ => True) d (.slice da d.length dc) w3) := Bs_below Bd.out hb
  replace HB : Hid (Below w.heap.size w w3) := HB.out.trans ((hb).mono HB.out.size)
  have bA : Below w3.heap.size w3 (w3.alloc (.cells #[.int .i64 xk, .slice xa1 xn1 xc1, .slice xa2 xn2 xc2, .slice xa3 xn3 xc3] 25)) := (Below.refl _ _).alloc (Nat.le_refl _) _
  have Nx : Hid (NX w3.heap.size (.int .i64 xk, .slice xa1 xn1 xc1, .slice xa2 xn2 xc2, .slice xa3 xn3 xc3) rx (w3.alloc (.cells #[.int .i64 xk, .slice xa1 xn1 xc1, .slice xa2 xn2 xc2, .slice xa3 xn3 xc3] 25))) := ⟨Bx_new w3 (.int .i64 xk, .slice xa1 xn1 xc1, .slice xa2 xn2 xc2, .slice xa3 xn3 xc3), Nv_below (Nv_mono hn (fun _ _ _ => trivial)) bA⟩
  clear hn hb
  replace Nt : Hid (NX (w.heap.size) (.int .i64 zk, .slice za1 zn1 zc1, .slice za2 zn2 zc2, .slice za3 zn3 zc3) (t) (w3.alloc (.cells #[.int .i64 xk, .slice xa1 xn1 xc1, .slice xa2 xn2 xc2, .slice xa3 xn3 xc3] 25))) := NX_below Nt.out bA
  replace Bk : Hid (Bs (fun _ => True) k (.slice kp k.length kc) (w3.alloc (.cells #[.int .i64 xk, .slice xa1 xn1 xc1, .slice xa2 xn2 xc2, .slice xa3 xn3 xc3] 25))) := Bs_below Bk.out bA
  replace By : Hid (Bs (fun _ => True) y (.slice yp y.length yc) (w3.alloc (.cells #[.int .i64 xk, .slice xa1 xn1 xc1, .slice xa2 xn2 xc2, .slice xa3 xn3 xc3] 25))) := Bs_below By.out bA
  replace Bd : Hid (Bs (fun _ => True) d (.slice da d.length dc) (w3.alloc (.cells #[.int .i64 xk, .slice xa1 xn1 xc1, .slice xa2 xn2 xc2, .slice xa3 xn3 xc3] 25))) := Bs_below Bd.out bA
  replace HB : Hid (Below w.heap.size w (w3.alloc (.cells #[.int .i64 xk, .slice xa1 xn1 xc1, .slice xa2 xn2 xc2, .slice xa3 xn3 xc3] 25))) := HB.out.trans ((bA).mono HB.out.size)
  clear bA
  obtain ⟨pf, hpf⟩ : ∃ pf, pf = pe t k y := ⟨_, rfl⟩
  rw [← hpf]
  have HF : Hid (pf = pe t k y) := hpf
  clear hpf
  by_cases h1 : ge = 0
  rotate_left
  · have e1 : (ge == 0) = false := beq_eq_false_iff_ne.2 h1
    clear h1
    go_wp2_with fail
    go_ret
    exact ⟨rfl, HB.out⟩
  by_cases h2 : pf = 0
  rotate_left
  · have e1 : (pf == 0) = false := beq_eq_false_iff_ne.2 h2
    clear h2
    subst h1
    go_wp2_with fail
    go_ret
    exact ⟨rfl, HB.out⟩
  subst h1 h2
  obtain ⟨hR, hgt, hRt, l1, l2, hlp, _⟩ := pr_ok HPx.out HF.out.symm
  have hdt : d = gt t (hv k) := by
    rw [HD.out]
    unfold gans
    rw [(rd_right t).2 hRt, if_pos rfl, if_pos l1]
  have hdl : d.length ≤ 1024 := by rw [hdt]; exact gt_len' hRt _
  have HP0 : Hid (pe rx k d = 0) := pe_zero hR l1 hdl
  have HU : Hid (Right rx ∧ Right t ∧ Lp rx ∧ ∀ q, (if q = hv k then d else gt rx q) = gt t q) := ⟨hR, hRt, hlp, fun q => by
    rw [hgt q]
    by_cases e : q = hv k
    · rw [if_pos e, hdt, e]
    · rw [if_neg e, if_neg e]⟩
  clear hR hgt hRt l1 l2 hlp hdt hdl HD HG HF LP
  have KP : Hid (Calls Try.prog 8 #[.agg #[.int .i64 xk, .slice xa1 xn1 xc1, .slice xa2 xn2 xc2, .slice xa3 xn3 xc3], .slice kp k.length kc, .slice da d.length dc] (w3.alloc (.cells #[.int .i64 xk, .slice xa1 xn1 xc1, .slice xa2 xn2 xc2, .slice xa3 xn3 xc3] 25)) fun e w' => ∃ (r : Nd) (u : V4), e = .returned (.tuple #[v4 u, .int .i64 (pe (rx) k d)]) ∧ Nv ((w3.alloc (.cells #[.int .i64 xk, .slice xa1 xn1 xc1, .slice xa2 xn2 xc2, .slice xa3 xn3 xc3] 25)).heap.size ≤ ·) w' r u ∧ PR (rx) k d r ∧ Below (w3.alloc (.cells #[.int .i64 xk, .slice xa1 xn1 xc1, .slice xa2 xn2 xc2, .slice xa3 xn3 xc3] 25)).heap.size (w3.alloc (.cells #[.int .i64 xk, .slice xa1 xn1 xc1, .slice xa2 xn2 xc2, .slice xa3 xn3 xc3] 25)) w') := tput_lp (rx) _ _ _ (.int .i64 xk, .slice xa1 xn1 xc1, .slice xa2 xn2 xc2, .slice xa3 xn3 xc3) (w3.alloc (.cells #[.int .i64 xk, .slice xa1 xn1 xc1, .slice xa2 xn2 xc2, .slice xa3 xn3 xc3] 25)) Nx.out.2 (HU.out.2.2.1) k _ Bk.out d _ Bd.out
  have qx0 := Nx.out.1.2.1
  have qx1 := Nx.out.1.2.2.1
  have qx2 := Nx.out.1.2.2.2.1
  have qx3 := Nx.out.1.2.2.2.2
  dsimp only at qx0 qx1 qx2 qx3
  go_wp2_with fail
  refine (KP.out).mono ?_
  rintro e w4 ⟨ry, uy, rfl, hn, hpr, hb⟩
  clear qx0 qx1 qx2 qx3
  obtain ⟨sk, sa1, sn1, sc1, sa2, sn2, sc2, sa3, sn3, sc3, rfl⟩ := Nv_form hn
  have HPy : Hid (PR (rx) k d ry) := hpr
  clear hpr KP
  simp only [v4]
  replace Nt : Hid (NX (w.heap.size) (.int .i64 zk, .slice za1 zn1 zc1, .slice za2 zn2 zc2, .slice za3 zn3 zc3) (t) w4) := NX_below Nt.out hb
  replace Nx : Hid (NX (w3.heap.size) (.int .i64 xk, .slice xa1 xn1 xc1, .slice xa2 xn2 xc2, .slice xa3 xn3 xc3) (rx) w4) := NX_below Nx.out hb
  replace Bk : Hid (Bs (fun _ => True) k (.slice kp k.length kc) w4) := Bs_below Bk.out hb
  replace By : Hid (Bs (fun _ => True) y (.slice yp y.length yc) w4) := Bs_below By.out hb
  replace Bd : Hid (Bs (fun _ => True) d (.slice da d.length dc) w4) := Bs_below Bd.out hb
  replace HB : Hid (Below w.heap.size w w4) := HB.out.trans ((hb).mono HB.out.size)
  have bA : Below w4.heap.size w4 (w4.alloc (.cells #[.int .i64 sk, .slice sa1 sn1 sc1, .slice sa2 sn2 sc2, .slice sa3 sn3 sc3] 25)) := (Below.refl _ _).alloc (Nat.le_refl _) _
  have Ny : Hid (NX w4.heap.size (.int .i64 sk, .slice sa1 sn1 sc1, .slice sa2 sn2 sc2, .slice sa3 sn3 sc3) ry (w4.alloc (.cells #[.int .i64 sk, .slice sa1 sn1 sc1, .slice sa2 sn2 sc2, .slice sa3 sn3 sc3] 25))) := ⟨Bx_new w4 (.int .i64 sk, .slice sa1 sn1 sc1, .slice sa2 sn2 sc2, .slice sa3 sn3 sc3), Nv_below (Nv_mono hn (fun _ _ _ => trivial)) bA⟩
  clear hn hb
  replace Nt : Hid (NX (w.heap.size) (.int .i64 zk, .slice za1 zn1 zc1, .slice za2 zn2 zc2, .slice za3 zn3 zc3) (t) (w4.alloc (.cells #[.int .i64 sk, .slice sa1 sn1 sc1, .slice sa2 sn2 sc2, .slice sa3 sn3 sc3] 25))) := NX_below Nt.out bA
  replace Nx : Hid (NX (w3.heap.size) (.int .i64 xk, .slice xa1 xn1 xc1, .slice xa2 xn2 xc2, .slice xa3 xn3 xc3) (rx) (w4.alloc (.cells #[.int .i64 sk, .slice sa1 sn1 sc1, .slice sa2 sn2 sc2, .slice sa3 sn3 sc3] 25))) := NX_below Nx.out bA
  replace Bk : Hid (Bs (fun _ => True) k (.slice kp k.length kc) (w4.alloc (.cells #[.int .i64 sk, .slice sa1 sn1 sc1, .slice sa2 sn2 sc2, .slice sa3 sn3 sc3] 25))) := Bs_below Bk.out bA
  replace By : Hid (Bs (fun _ => True) y (.slice yp y.length yc) (w4.alloc (.cells #[.int .i64 sk, .slice sa1 sn1 sc1, .slice sa2 sn2 sc2, .slice sa3 sn3 sc3] 25))) := Bs_below By.out bA
  replace Bd : Hid (Bs (fun _ => True) d (.slice da d.length dc) (w4.alloc (.cells #[.int .i64 sk, .slice sa1 sn1 sc1, .slice sa2 sn2 sc2, .slice sa3 sn3 sc3] 25))) := Bs_below Bd.out bA
  replace HB : Hid (Below w.heap.size w (w4.alloc (.cells #[.int .i64 sk, .slice sa1 sn1 sc1, .slice sa2 sn2 sc2, .slice sa3 sn3 sc3] 25))) := HB.out.trans ((bA).mono HB.out.size)
  clear bA
  rw [HP0.out]
  have hz : sn ry t = true := by
    obtain ⟨hRy, hgy, _⟩ := pr_ok HPy.out HP0.out
    exact sn_uniq hRy HU.out.2.1 (fun q => by rw [hgy q]; exact HU.out.2.2.2 q)
  have KS : Hid (∀ wx : World, wx = (w4.alloc (.cells #[.int .i64 sk, .slice sa1 sn1 sc1, .slice sa2 sn2 sc2, .slice sa3 sn3 sc3] 25)) → Calls Try.prog 9 #[.agg #[.int .i64 sk, .slice sa1 sn1 sc1, .slice sa2 sn2 sc2, .slice sa3 sn3 sc3], .agg #[.int .i64 zk, .slice za1 zn1 zc1, .slice za2 zn2 zc2, .slice za3 zn3 zc3]] wx fun e w' => e = .returned (.bool true) ∧ Below w.heap.size w w') := fun wx ew => by
    subst ew
    have h := same_any (pr_sm HPy.out) t _ _ (.int .i64 sk, .slice sa1 sn1 sc1, .slice sa2 sn2 sc2, .slice sa3 sn3 sc3) (.int .i64 zk, .slice za1 zn1 zc1, .slice za2 zn2 zc2, .slice za3 zn3 zc3) _ Ny.out.2 Nt.out.2
    rw [hz] at h
    exact h.mono fun e w' he => ⟨he.1, HB.out.trans (he.2.mono HB.out.size)⟩
  clear hz HPy HP0 HU HPx HSM
  have qy0 := Ny.out.1.2.1
  have qy1 := Ny.out.1.2.2.1
  have qy2 := Ny.out.1.2.2.2.1
  have qy3 := Ny.out.1.2.2.2.2
  have qt0 := Nt.out.1.2.1
  have qt1 := Nt.out.1.2.2.1
  have qt2 := Nt.out.1.2.2.2.1
  have qt3 := Nt.out.1.2.2.2.2
  dsimp only at qy0 qy1 qy2 qy3 qt0 qt1 qt2 qt3
  go_wp2_with fail
  refine (KS.out _ rfl).mono ?_
  rintro e w9 ⟨rfl, hb9⟩
  clear qy0 qy1 qy2 qy3 qt0 qt1 qt2 qt3
  replace HB : Hid (Below w.heap.size w w9) := hb9
  clear hb9 KS Ny Nt Nx Bk By Bd
  go_wp2_with fail
  go_ret
  exact ⟨rfl, HB.out⟩
end Tr
end Go.Proofs.Ytdcbgldelfhohab
