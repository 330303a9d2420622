/- tree.Right; the law TreeRights. -/
import Derived.Test.YtdcbgldelfhohaaPackE
import Derived.Test.YtdcbgldelfhohaaPackF
import Derived.Shelf.SlGeneric
import Derived.Shelf.SlSortCmp.WholeK
import Derived.Ground.SlsfProg
import Derived.Test.YtdcbgldelfhohaaProg
import Derived.Test.YtdcbgldelfhohaaPackA
import Derived.Sort.OwnSorted
import Derived.ProofKit
import Derived.OpenShut
import Derived.ShutString
import Derived.ChangeOld
import Derived.Lib.SmallJoins
import Derived.SizedLaws
import Derived.Test.YtdcbgldelfhohaaPackC
namespace Go.Proofs.Ytdcbgldelfhohaa
namespace Tr
open Nb Go.RowKit
/-- A node in its box. -/
structure NB (h : Nat) (u : V4) (t : Nd) (lo : Nat) (W wx : World) : Prop where
  bx : Bx h u wx
  n : Nv (· < lo) wx t u
  l : lo ≤ wx.heap.size
  b : Below W.heap.size W wx
theorem NB_below {h : Nat} {u : V4} {t : Nd} {lo : Nat} {W wx w2 : World} (k : NB h u t lo W wx) (b : Below wx.heap.size wx w2) : NB h u t lo W w2 := ⟨Bx_below k.bx b, Nv_below k.n b, Nat.le_trans k.l b.size, k.b.trans (b.mono k.b.size)⟩
theorem NB_new {u : V4} {t : Nd} {lo : Nat} {w : World} (hn : Nv (· < lo) w t u) (hl : lo ≤ w.heap.size) : NB w.heap.size u t lo w (w.alloc (.cells #[u.1, u.2.1, u.2.2.1, u.2.2.2] 25)) := by
  have b : Below w.heap.size w (w.alloc (.cells #[u.1, u.2.1, u.2.2.1, u.2.2.2] 25)) := (Below.refl _ _).alloc (Nat.le_refl _) _
  exact ⟨Bx_new w u, Nv_below hn b, Nat.le_trans hl b.size, b⟩
set_option maxHeartbeats 1000000 in
set_option maxRecDepth 100000 in
theorem right_any (t : Nd) (lo : Nat) (x : V4) (w : World) (hx : Nv (· < lo) w t x) (hlo : lo ≤ w.heap.size) (hw : wn t ≤ 4194304) :
    Calls Try.prog 9 #[v4 x] w fun e w' => e = .returned (.bool (rd 0 t)) ∧ Below w.heap.size w w' := by
  obtain ⟨k, a1, n1, c1, a2, m2, c2, a3, n3, c3, rfl⟩ := Nv_form hx
  have N0 := NB_new hx hlo
  obtain ⟨_, q0, q1, q2, q3⟩ := N0.bx
  dsimp only at q0 q1 q2 q3
  have KR : Hid (∀ wx : World, NB w.heap.size (.int .i64 k, .slice a1 n1 c1, .slice a2 m2 c2, .slice a3 n3 c3) t lo w wx → Calls Try.prog 22 #[.agg #[.int .i64 k, .slice a1 n1 c1, .slice a2 m2 c2, .slice a3 n3 c3], .int .i64 0] wx fun e w' => ∃ y, e = .returned (.tuple #[y, .bool (rd 0 t)]) ∧ Below wx.heap.size wx w') := fun wx hn => by
    refine ((read_all lo (wf_any t)).1 0 (.int .i64 k, .slice a1 n1 c1, .slice a2 m2 c2, .slice a3 n3 c3) wx (by omega) hn.n hn.l hw).mono fun e w' he => ?_
    obtain ⟨y, h1, _, h3⟩ := he
    exact ⟨y, h1, h3⟩
  have HN : Hid (NB w.heap.size (.int .i64 k, .slice a1 n1 c1, .slice a2 m2 c2, .slice a3 n3 c3) t lo w (w.alloc (.cells #[.int .i64 k, .slice a1 n1 c1, .slice a2 m2 c2, .slice a3 n3 c3] 25))) := N0
  clear N0 hx hlo hw
  show Calls Try.prog _ #[.agg #[.int .i64 k, .slice a1 n1 c1, .slice a2 m2 c2, .slice a3 n3 c3]] w _
  generalize rd 0 t = r at *
  go_enter Try.func9, Try.ntmps9
  go_wp2_with fail
  refine (KR.out _ HN.out).mono ?_
  rintro e w1 ⟨y, rfl, hb1⟩
  have HZ : Hid (Below w.heap.size w w1) := HN.out.b.trans (hb1.mono HN.out.b.size)
  clear hb1
  go_wp2_with fail
  go_ret
  exact ⟨rfl, HZ.out⟩
theorem rd_gr (t : Nd) : rd 0 t = gr t := by rw [Bool.eq_iff_iff, rd_right, gr_right]
set_option maxHeartbeats 2000000 in
set_option maxRecDepth 100000 in
theorem law_rights (t : Nd) (hs : Sm t) (x : V4) (w : World) (hx : Nv (· < w.heap.size) w t x) (hw : wn t ≤ 1048576) :
    Calls Try.prog 3 #[v4 x] w fun e w' => e = .returned (.bool true) ∧ Below w.heap.size w w' := by
  obtain ⟨k, a1, n1, c1, a2, m2, c2, a3, n3, c3, rfl⟩ := Nv_form hx
  have N0 := NB_new hx (Nat.le_refl _)
  have KR : Hid (∀ wx : World, NB w.heap.size (.int .i64 k, .slice a1 n1 c1, .slice a2 m2 c2, .slice a3 n3 c3) t w.heap.size w wx → Calls Try.prog 9 #[.agg #[.int .i64 k, .slice a1 n1 c1, .slice a2 m2 c2, .slice a3 n3 c3]] wx fun e w' => e = .returned (.bool (gr t)) ∧ Below wx.heap.size wx w') := fun wx hn => by
    rw [← rd_gr]
    exact right_any t w.heap.size (.int .i64 k, .slice a1 n1 c1, .slice a2 m2 c2, .slice a3 n3 c3) wx hn.n hn.l (by omega)
  have KG : Hid (∀ wx : World, NB w.heap.size (.int .i64 k, .slice a1 n1 c1, .slice a2 m2 c2, .slice a3 n3 c3) t w.heap.size w wx → Calls Try.prog 10 #[.agg #[.int .i64 k, .slice a1 n1 c1, .slice a2 m2 c2, .slice a3 n3 c3]] wx fun e w' => e = .returned (.bool (gr t)) ∧ Below wx.heap.size wx w') := fun wx hn => gright_any grown_ok t hs _ (.int .i64 k, .slice a1 n1 c1, .slice a2 m2 c2, .slice a3 n3 c3) wx hn.n hw
  have R0 : NB w.heap.size (.int .i64 k, .slice a1 n1 c1, .slice a2 m2 c2, .slice a3 n3 c3) t w.heap.size w (w.alloc (.cells #[.int .i64 k, .slice a1 n1 c1, .slice a2 m2 c2, .slice a3 n3 c3] 25)).drew := NB_below N0 (Below.refl _ _).drew
  clear N0 hx hw hs
  show Calls Try.prog _ #[.agg #[.int .i64 k, .slice a1 n1 c1, .slice a2 m2 c2, .slice a3 n3 c3]] w _
  generalize gr t = r at *
  go_enter Try.func3, Try.ntmps3
  go_upto_region 1 with fail
  generalize (w.alloc (.cells #[.int .i64 k, .slice a1 n1 c1, .slice a2 m2 c2, .slice a3 n3 c3] 25)) = W0 at *
  generalize hg0 : w.heap.size = g0 at *
  refine RS.wp_region_one (NB g0 (.int .i64 k, .slice a1 n1 c1, .slice a2 m2 c2, .slice a3 n3 c3) t g0 w) (by kernel_rfl) (by kernel_rfl) (R0) ?_
  dsimp only [List.toList_toArray]
  refine RS.go1 (v := ?_) (a' := ?_) rfl ?_ ?_ ?_
  rotate_left 2
  · intro K wx hS hK
    have m0 := hS.bx.2.1
    have m1 := hS.bx.2.2.1
    have m2' := hS.bx.2.2.2.1
    have m3 := hS.bx.2.2.2.2
    go_simp
    exact hK _ hS
  · simp only [Act.put, List.setIfInBounds_toArray, List.set_cons_succ, List.set_cons_zero]
    rfl
  refine RS.go1 (v := ?_) (a' := ?_) rfl ?_ ?_ ?_
  rotate_left 2
  · intro K wx hS hK
    go_simp
    refine (KR.out _ hS).mono (fun e w2 he => ?_)
    refine ⟨_, he.1, ?_⟩
    exact hK _ (NB_below hS he.2)
  · simp only [Act.put, List.setIfInBounds_toArray, List.set_cons_succ, List.set_cons_zero]
    rfl
  refine RS.go1 (v := ?_) (a' := ?_) rfl ?_ ?_ ?_
  rotate_left 2
  · intro K wx hS hK
    have m0 := hS.bx.2.1
    have m1 := hS.bx.2.2.1
    have m2' := hS.bx.2.2.2.1
    have m3 := hS.bx.2.2.2.2
    go_simp
    exact hK _ hS
  · simp only [Act.put, List.setIfInBounds_toArray, List.set_cons_succ, List.set_cons_zero]
    rfl
  refine RS.go1 (v := ?_) (a' := ?_) rfl ?_ ?_ ?_
  rotate_left 2
  · intro K wx hS hK
    go_simp
    refine (KG.out _ hS).mono (fun e w2 he => ?_)
    refine ⟨_, he.1, ?_⟩
    exact hK _ (NB_below hS he.2)
  · simp only [Act.put, List.setIfInBounds_toArray, List.set_cons_succ, List.set_cons_zero]
    rfl
  refine RS.go1 (v := ?_) (a' := ?_) rfl ?_ ?_ ?_
  rotate_left 2
  · intro K wx hS hK
    have e := beq_self_eq_true r
    go_simp
    exact hK _ hS
  · simp only [Act.put, List.setIfInBounds_toArray, List.set_cons_succ, List.set_cons_zero]
    rfl
  refine RS.go1 (v := ?_) (a' := ?_) rfl ?_ ?_ ?_
  rotate_left 2
  · intro K wx hS hK
    go_simp
    exact hK _ hS
  · simp only [Act.put, List.setIfInBounds_toArray, List.set_cons_succ, List.set_cons_zero]
    rfl
  refine RS.go_end ?_
  intro w9 m9
  have HZ : Hid (Below w.heap.size w w9) := m9.b
  clear m9 R0
  go_wp2_with fail
  go_ret
  exact ⟨rfl, HZ.out⟩
end Tr
end Go.Proofs.Ytdcbgldelfhohaa
/- tree.Get and lampbearerref.GGet, whole. -/
namespace Go.Proofs.Ytdcbgldelfhohaa
namespace Tr
open Nb Go.RowKit
/-- What a value asked for by its key is answered with. -/
def gans (t : Nd) (b : By) : By × Int := if rd 0 t = true then (if b.length ≤ 32 then (gt t (hv b), 0) else ([], 3)) else ([], 1)
theorem gans_form {t : Nd} {b : By} (h : rd 0 t = false) : gans t b = ([], 1) := by
  unfold gans
  rw [h]; rfl
theorem gans_key {t : Nd} {b : By} (h : rd 0 t = true) (hk : ¬ b.length ≤ 32) : gans t b = ([], 3) := by
  unfold gans
  rw [if_pos h, if_neg hk]
theorem gans_val {t : Nd} {b : By} (h : rd 0 t = true) (hk : b.length ≤ 32) : gans t b = (gt t (hv b), 0) := by
  unfold gans
  rw [if_pos h, if_pos hk]
theorem gt_len {t : Nd} (h : Right t) (q : By) : (gt t q).length ≤ 1024 := by
  by_cases e : gt t q = []
  · rw [e]; exact Nat.zero_le _
  · exact (h.2 q e).2.2.2
theorem get_any (t : Nd) (lo : Nat) (x : V4) (w : World) (hx : Nv (· < lo) w t x) (hlo : lo ≤ w.heap.size) (hw : wn t ≤ 4194304) (b : By) (kv : Value) (hb : Bs (· < lo) b kv w) :
    Calls Try.prog 11 #[v4 x, kv] w fun e w' => (∃ a c, e = .returned (.tuple #[.slice a (gans t b).1.length c, .int .i64 (gans t b).2]) ∧ Bs (Sb lo w') (gans t b).1 (.slice a (gans t b).1.length c) w') ∧ Below w.heap.size w w' := by
  obtain ⟨k, a1, n1, c1, a2, m2, c2, a3, n3, c3, rfl⟩ := Nv_form hx
  obtain ⟨ak, ck, rfl, hck⟩ := Bs_form hb
  have KR : ∀ wx : World, Below w.heap.size w wx → Calls Try.prog 22 #[.agg #[.int .i64 k, .slice a1 n1 c1, .slice a2 m2 c2, .slice a3 n3 c3], .int .i64 0] wx (RP lo 0 t wx) := fun wx h => (read_all lo (wf_any t)).1 0 (.int .i64 k, .slice a1 n1 c1, .slice a2 m2 c2, .slice a3 n3 c3) wx (by omega) (Nv_below hx h) (Nat.le_trans hlo h.size) hw
  cases hr : rd 0 t with
  | false =>
    rw [gans_form hr]
    refine (get_form k a1 a2 a3 ak n1 c1 m2 c2 n3 c3 b.length ck w (fun wx h => (KR wx h).mono fun e w' he => ?_)).mono fun e w' he => ?_
    · obtain ⟨y, h1, _, h3⟩ := he
      rw [hr] at h1
      exact ⟨y, h1, h3⟩
    · exact ⟨⟨none, 0, he.1, Bs_nil _ _⟩, he.2⟩
  | true =>
    by_cases hk : b.length ≤ 32
    · rw [gans_val hr hk]
      have hR := (rd_right t).1 hr
      refine get_value k a1 a2 a3 ak n1 c1 m2 c2 n3 c3 b.length ck w lo (gt t (hv b)) (hv b) t (fun y => w.heap.size ≤ y) (fun wx h => (KR wx h).mono fun e w' he => ?_) hk (fun wx h => ?_) (fun ty yy kv wx hin hkv => ?_) (fun v wx hv => ?_)
      · obtain ⟨y, h1, h2, h3⟩ := he
        rw [hr] at h1
        exact ⟨y, h1, In_mono (h2 hr) (fun z hz => Nat.le_trans h.size hz), h3⟩
      · exact halves_bs (Bs_below hb h) (by omega)
      · exact get_all lo _ t _ _ _ _ wx (Nat.le_refl _) hin hR.1 hkv (pt_hv b)
      · refine (clone_bs hv (by have := gt_len hR (Nb.hv b); omega)).mono fun e w' he => ?_
        obtain ⟨v, h1, h2, h3⟩ := he
        obtain ⟨a, c, rfl, _⟩ := Bs_form h2
        exact ⟨a, c, h1, Bs_mono h2 (fun k hk _ => .inr hk.2), h3⟩
    · rw [gans_key hr hk]
      refine (get_key k a1 a2 a3 ak n1 c1 m2 c2 n3 c3 b.length ck w (fun wx h => (KR wx h).mono fun e w' he => ?_) hk).mono fun e w' he => ?_
      · obtain ⟨y, h1, _, h3⟩ := he
        rw [hr] at h1
        exact ⟨y, h1, h3⟩
      · exact ⟨⟨none, 0, he.1, Bs_nil _ _⟩, he.2⟩
theorem lk_find (q : By) : ∀ l : Rt, ∃ i, i ≤ l.length ∧ (∀ j, j < i → (l.getD j n2).1 ≠ q) ∧ (i < l.length → (l.getD i n2).1 = q ∧ (l.getD i n2).2 = lk l q) ∧ (i = l.length → lk l q = [])
  | [] => ⟨0, Nat.le_refl _, fun j hj => absurd hj (by omega), fun h => absurd h (by simp), fun _ => rfl⟩
  | (p, v) :: r => by
    by_cases e : q = p
    · refine ⟨0, Nat.zero_le _, fun j hj => absurd hj (by omega), fun _ => ?_, fun h => by simp at h⟩
      rw [lk, if_pos e]
      exact ⟨e.symm, rfl⟩
    · obtain ⟨i, h1, h2, h3, h4⟩ := lk_find q r
      rw [lk, if_neg e]
      refine ⟨i + 1, by simpa using h1, fun j hj => ?_, fun h => h3 (by simpa using h), fun h => h4 (by simpa using h)⟩
      cases j with
      | zero => exact fun h => e h.symm
      | succ j => exact h2 j (by omega)
theorem gget_any (t : Nd) (hs : Sm t) (S T : Nat → Prop) (x : V4) (w : World) (hx : Nv S w t x) (hw : wn t ≤ 1048576) (b : By) (kv : Value) (hb : Bs T b kv w) :
    Calls Try.prog 12 #[v4 x, kv] w fun e w' => (∃ a c, e = .returned (.tuple #[.slice a (gans t b).1.length c, .int .i64 (gans t b).2]) ∧ Bs (fun _ => True) (gans t b).1 (.slice a (gans t b).1.length c) w') ∧ Below w.heap.size w w' := by
  obtain ⟨k, a1, n1, c1, a2, m2, c2, a3, n3, c3, rfl⟩ := Nv_form hx
  obtain ⟨ak, ck, rfl, hck⟩ := Bs_form hb
  have KG : ∀ wx : World, Below w.heap.size w wx → Calls Try.prog 10 #[.agg #[.int .i64 k, .slice a1 n1 c1, .slice a2 m2 c2, .slice a3 n3 c3]] wx fun e w' => e = .returned (.bool (rd 0 t)) ∧ Below wx.heap.size wx w' := fun wx h => by
    rw [rd_gr]
    exact gright_any grown_ok t hs S (.int .i64 k, .slice a1 n1 c1, .slice a2 m2 c2, .slice a3 n3 c3) wx (Nv_below hx h) hw
  cases hr : rd 0 t with
  | false =>
    rw [gans_form hr]
    rw [hr] at KG
    exact (gg_form k a1 a2 a3 ak n1 c1 m2 c2 n3 c3 b.length ck w KG).mono fun e w' he => ⟨⟨none, 0, he.1, Bs_nil _ _⟩, he.2⟩
  | true =>
    rw [hr] at KG
    by_cases hk : b.length ≤ 32
    · rw [gans_val hr hk]
      have hR := (rd_right t).1 hr
      obtain ⟨l, hl, _, _⟩ := (right_iff t).1 hR
      have hlk := (rt_spec hl).2.2 (hv b)
      have hp : pre [] l = l := by unfold pre; simp
      have hlen : l.length ≤ 1048576 := Nat.le_trans (rt_count (wf_any t) l hl) hw
      obtain ⟨i, h1, h2, h3, h4⟩ := lk_find (hv b) l
      rw [hlk] at h3 h4
      refine gg_value k a1 a2 a3 ak n1 c1 m2 c2 n3 c3 b.length ck w KG hk l (hv b) (gt t (hv b)) hlen (fun wx hbw => ?_) (fun wx h => nhalves_bs (Bs_below hb h) (by omega)) i h1 h2 h3 h4 (by have := gt_len hR (hv b); show _ ≤ _; omega)
      refine (routes_any (wf_any t) S (.int .i64 k, .slice a1 n1 c1, .slice a2 m2 c2, .slice a3 n3 c3) wx [] (Nv_below hx hbw) (by rw [List.length_nil]; omega)).mono fun e w' he => ?_
      obtain ⟨g1 | g1, g2⟩ := he
      · obtain ⟨l2, y, g3, g4, g5⟩ := g1
        rw [hl] at g3
        cases g3
        rw [hp] at g5
        have g6 := g5
        obtain ⟨la, lc, rfl, -, -⟩ := g5
        exact ⟨la, _, lc, g4, ⟨rfl, g6⟩, g2⟩
      · rw [hl] at g1; cases g1.1
    · rw [gans_key hr hk]
      exact (gg_key k a1 a2 a3 ak n1 c1 m2 c2 n3 c3 b.length ck w KG hk).mono fun e w' he => ⟨⟨none, 0, he.1, Bs_nil _ _⟩, he.2⟩
end Tr
end Go.Proofs.Ytdcbgldelfhohaa
/- lampbearerref.GPut at every argument, and the law TreePuts: over what slices.SortFunc does. -/
namespace Go.Proofs.Ytdcbgldelfhohaa
namespace Tr
open Nb Go.RowKit
mutual
theorem bn_bn : ∀ t : Nd, bn (bn t) = bn t
  | .mk k p v ks => by
    have ih := bns_bns ks
    by_cases h1 : k = 1
    · subst h1; simp [bn]
    by_cases h2 : k = 2
    · subst h2; simp [bn, ih]
    by_cases h3 : k = 3
    · subst h3; simp [bn, ih]
    simp [bn, h1, h2, h3]
theorem bns_bns : ∀ l : List Nd, bns (bns l) = bns l
  | [] => by simp [bns]
  | t :: r => by simp [bns, bn_bn t, bns_bns r]
end
/-- The reference's answer to a put. -/
def GR2 (t : Nd) (b y : By) (r : Nd) : Prop := if pe t b y = 0 then ∃ l l2, rt t = some l ∧ RPs l (hv b) y l2 ∧ r = grw l2 ∧ ∀ q ∈ l2, q.1.length < 65 else r = Nd.no
theorem put_eq {t : Nd} {b y : By} {r s : Nd} (h1 : PR t b y r) (h2 : GR2 t b y s) : sn r s = true := by
  rw [sn_bn]
  unfold PR at h1
  unfold GR2 at h2
  by_cases h : pe t b y = 0
  · rw [if_pos h] at h1 h2
    obtain ⟨t', rfl, hr, hu⟩ := h1
    obtain ⟨l, l2, hl, hp, rfl, hn⟩ := h2
    rw [bn_bn]
    exact put_same hl hp hr hu hn
  · rw [if_neg h] at h1 h2
    rw [h1, h2]
theorem rps_short {l l2 : Rt} {p y : By} (h : RPs l p y l2) (hl : ∀ r ∈ l, r.1.length ≤ 64) (hp : p.length ≤ 64) : ∀ r ∈ l2, r.1.length < 65 := fun r hr => by
  have h1 := lk_mem l2 r h.hs hr
  have h2 := h.hv r hr
  rw [h.hk] at h1
  by_cases e : r.1 = p
  · rw [e]; omega
  · rw [if_neg e] at h1
    obtain ⟨r', hr', e'⟩ := lk_in (l := l) (q := r.1) (by rw [h1]; exact h2)
    have := hl r' hr'
    rw [← e']
    omega
theorem gput_any (hso : SortOk) (t : Nd) (hsm : Sm t) (S T T' : Nat → Prop) (x : V4) (w : World) (hx : Nv S w t x) (hw : wn t ≤ 1048576) (b : By) (kv : Value) (hb : Bs T b kv w) (y : By) (yv : Value) (hy : Bs T' y yv w) (hl1 : ∀ l, rt t = some l → l.length + 1 ≤ 1048576) :
    Calls Try.prog 14 #[v4 x, kv, yv] w fun e w' => ∃ (r : Nd) (u : V4), e = .returned (.tuple #[v4 u, .int .i64 (pe t b y)]) ∧ Nv (w.heap.size ≤ ·) w' r u ∧ GR2 t b y r ∧ Below w.heap.size w w' := by
  obtain ⟨k, a1, n1, c1, a2, m2, c2, a3, n3, c3, rfl⟩ := Nv_form hx
  obtain ⟨ak, ck, rfl, _⟩ := Bs_form hb
  obtain ⟨av, cv, rfl, _⟩ := Bs_form hy
  have KG : ∀ wx : World, Below w.heap.size w wx → Calls Try.prog 10 #[.agg #[.int .i64 k, .slice a1 n1 c1, .slice a2 m2 c2, .slice a3 n3 c3]] wx fun e w' => e = .returned (.bool (rd 0 t)) ∧ Below wx.heap.size wx w' := fun wx h => by
    rw [rd_gr]
    exact gright_any grown_ok t hsm S (.int .i64 k, .slice a1 n1 c1, .slice a2 m2 c2, .slice a3 n3 c3) wx (Nv_below hx h) hw
  cases hr : rd 0 t with
  | false =>
    rw [hr] at KG
    have hp : pe t b y = 1 := by unfold pe; rw [hr]; rfl
    have hPR : GR2 t b y Nd.no := by unfold GR2; rw [hp, if_neg (by decide)]
    rw [hp]
    exact (gp_form k a1 a2 a3 ak av n1 c1 m2 c2 n3 c3 b.length ck y.length cv w KG).mono fun e w' he => ⟨Nd.no, (.int .i64 0, .slice none 0 0, .slice none 0 0, .slice none 0 0), he.1, Nv_no _ _, hPR, he.2⟩
  | true =>
    rw [hr] at KG
    have hp : pe t b y = mp b.length y.length := by unfold pe; rw [hr]; rfl
    by_cases hm : mp b.length y.length = 0
    · have hp0 : pe t b y = 0 := hp.trans hm
      have hR := (rd_right t).1 hr
      obtain ⟨l1, l2⟩ := mp_zero hm
      have hlv := hv_len b
      obtain ⟨l, hl, hok, _⟩ := (right_iff t).1 hR
      obtain ⟨r1, r2, r3⟩ := rt_spec hl
      have hvo : VO l := fun r hr => (hok r hr).2.2.1
      have hpre : pre [] l = l := by unfold pre; simp
      have hlen := hl1 l hl
      have hshort : ∀ r ∈ l, r.1.length ≤ 64 := fun r hr => (hok r hr).2.1
      have KM : ∀ wx : World, Calls Try.prog 31 #[.slice ak b.length ck, .slice av y.length cv] wx fun e w' => e = .returned (.int .i64 0) ∧ w' = wx := fun wx => by
        have := puterror_any ak av b.length ck y.length cv wx
        rwa [hm] at this
      have KT : ∀ wx : World, Below w.heap.size w wx → Calls Try.prog 23 #[.agg #[.int .i64 k, .slice a1 n1 c1, .slice a2 m2 c2, .slice a3 n3 c3], .string ⟨#[]⟩] wx fun e w' => ∃ la n lc, e = .returned (.tuple #[.slice la n lc, .bool true]) ∧ Rv l (.slice la n lc) w' ∧ Below wx.heap.size wx w' := fun wx hbw => by
        refine (routes_any (wf_any t) S (.int .i64 k, .slice a1 n1 c1, .slice a2 m2 c2, .slice a3 n3 c3) wx [] (Nv_below hx hbw) (by rw [List.length_nil]; omega)).mono fun e w' he => ?_
        obtain ⟨g1 | g1, g2⟩ := he
        · obtain ⟨l2, y, g3, g4, g5⟩ := g1
          rw [hl] at g3
          cases g3
          rw [hpre] at g5
          have g6 := g5
          obtain ⟨la, lc, rfl, -, -⟩ := g5
          exact ⟨la, _, lc, g4, g6, g2⟩
        · rw [hl] at g1; cases g1.1
      rw [hp0]
      refine (gp_value k a1 a2 a3 ak av n1 c1 m2 c2 n3 c3 b.length ck y.length cv w l (fun l2 => RPs l (hv b) y l2 ∧ l2.length ≤ l.length + 1) KG KM KT (fun v wx hrv hbw => ?_) (fun l2 v wx hpl hrv => ?_)).mono fun e w' he => ?_
      · have hrv0 := hrv
        obtain ⟨la, lc, rfl, _, _⟩ := hrv0
        refine (rput_any l (hv b) y la ak av l.length lc b.length ck y.length cv wx hrv (by show _ ≤ _; omega) r1 r2 hvo (pt_hv b) rfl (Bs_sl (Bs_below hy hbw)) hso (fun wy hby => nhalves_bs (Bs_below (Bs_below hb hbw) hby) (by omega))).mono fun e w' he => ?_
        obtain ⟨z, L2, g1, g2, g3, g4, g5⟩ := he
        have g6 := g2
        obtain ⟨za, zc, rfl, _, _⟩ := g6
        exact ⟨L2, za, _, zc, ⟨g3, g4⟩, g1, g2, g5⟩
      · exact grown_ok l2 v wx hrv (by have := hpl.2; omega) (rps_short hpl.1 hshort (by omega)) hpl.1.hs hpl.1.hp
      · obtain ⟨l2, u, g1, g2, g3, g4⟩ := he
        exact ⟨grw l2, u, g2, g3, by unfold GR2; rw [if_pos hp0]; exact ⟨l, l2, hl, g1.1, rfl, rps_short g1.1 hshort (by omega)⟩, g4⟩
    · have hPR : GR2 t b y Nd.no := by unfold GR2; rw [hp, if_neg hm]
      rw [hp]
      exact (gp_err k a1 a2 a3 ak av n1 c1 m2 c2 n3 c3 b.length ck y.length cv w KG _ (beq_eq_false_iff_ne.2 hm) (fun wx => puterror_any ak av b.length ck y.length cv wx)).mono fun e w' he => ⟨Nd.no, (.int .i64 0, .slice none 0 0, .slice none 0 0, .slice none 0 0), he.1, Nv_no _ _, hPR, he.2⟩
end Tr
end Go.Proofs.Ytdcbgldelfhohaa
/- The law TreePuts, over what slices.SortFunc does. -/
namespace Go.Proofs.Ytdcbgldelfhohaa
namespace Tr
open Nb Go.RowKit
theorem rt_less {t : Nd} {l : Rt} (h : rt t = some l) : l.length + 1 ≤ wn t := by
  cases t with
  | mk k p v ks =>
    unfold rt at h
    split at h
    · cases h
    split at h
    · cases h
      unfold wn
      rw [List.length_nil]; omega
    split at h
    · cases h
      unfold wn
      rw [List.length_singleton]; omega
    split at h
    · rename_i h2
      obtain ⟨t, rfl⟩ := List.length_eq_one_iff.1 h2.2
      rw [rt0] at h
      cases ha : rt t with
      | none => rw [ha] at h; cases h
      | some a =>
        rw [ha] at h
        cases h
        have := rt_count (wf_any t) a ha
        unfold wn wnk wnk
        rw [pre_len']; omega
    split at h
    · cases ha : rtk 0 ks with
      | none => rw [ha] at h; cases h
      | some a =>
        rw [ha] at h
        cases h
        have := rtk_count ks 0 a (fun j hj l hl => rt_count (wf_any _) l hl) ha
        unfold wn
        rw [List.length_append]
        split
        · rw [List.length_nil]; omega
        · rw [List.length_singleton]; omega
    · cases h
end Tr
end Go.Proofs.Ytdcbgldelfhohaa
/- The law TreePuts, over what slices.SortFunc does. -/
namespace Go.Proofs.Ytdcbgldelfhohaa
namespace Tr
open Nb Go.RowKit
theorem bns_len' : ∀ l : List Nd, (bns l).length = l.length
  | [] => rfl
  | t :: r => by rw [bns, List.length_cons, List.length_cons, bns_len' r]
theorem bns_at : ∀ (l : List Nd) (j : Nat), j < l.length → (bns l).getD j Nd.no = bn (l.getD j Nd.no)
  | [], j, h => absurd h (by simp)
  | t :: r, 0, _ => by rw [bns]; rfl
  | t :: r, j + 1, h => by
    rw [bns, List.getD_cons_succ, List.getD_cons_succ]
    exact bns_at r j (by simpa using h)
theorem sm_nil (k : Int) (p v : By) : Sm (.mk k p v []) := .mk k p v [] (by simp) (fun j hj => absurd hj (by simp))
theorem sm_bn {t : Nd} (h : Rs t) : Sm (bn t) := by
  induction h with
  | none p v ks => simp only [bn]; exact sm_nil _ _ _
  | leaf p v ks hp hv => simp only [bn]; exact sm_nil _ _ _
  | road p v t hp h0 hk h ih =>
    have e : bn (.mk 2 p v [t]) = .mk 2 p [] [bn t] := by simp [bn, bns]
    rw [e]
    refine .mk 2 p [] [bn t] (by simp) (fun j hj => ?_)
    have : j = 0 := by simpa using hj
    subst this
    exact ih
  | fork p v ks hl h h2 ih =>
    have e : bn (.mk 3 p v ks) = .mk 3 [] v (bns ks) := by simp [bn]
    rw [e]
    refine .mk 3 [] v (bns ks) (by rw [bns_len', hl]; omega) (fun j hj => ?_)
    rw [bns_len'] at hj
    rw [bns_at ks j hj]
    exact ih j (by omega)
theorem pr_sm {t : Nd} {b y : By} {r : Nd} (h : PR t b y r) : Sm r := by
  unfold PR at h
  split at h
  · obtain ⟨t', rfl, hr, _⟩ := h
    exact sm_bn hr
  · rw [h]; exact sm_nil _ _ _
set_option maxHeartbeats 2000000 in
set_option maxRecDepth 100000 in
theorem law_puts (hso : SortOk) (t : Nd) (hs : Sm t) (x : V4) (w : World) (hx : Nv (· < w.heap.size) w t x) (hw : wn t ≤ 1048576) (b : By) (kv : Value) (hb : Bs (· < w.heap.size) b kv w) (y : By) (yv : Value) (hy : Bs (· < w.heap.size) y yv w) :
    Calls Try.prog 5 #[v4 x, kv, yv] w fun e w' => e = .returned (.bool true) ∧ Below w.heap.size w w' := by
  obtain ⟨k, a1, n1, c1, a2, m2, c2, a3, n3, c3, rfl⟩ := Nv_form hx
  obtain ⟨ak, ck, rfl, _⟩ := Bs_form hb
  obtain ⟨av, cv, rfl, _⟩ := Bs_form hy
  have N0 := NB_new hx (Nat.le_refl _)
  have KX : Hid (∀ wx : World, NB w.heap.size (.int .i64 k, .slice a1 n1 c1, .slice a2 m2 c2, .slice a3 n3 c3) t w.heap.size w wx → Calls Try.prog 13 #[.agg #[.int .i64 k, .slice a1 n1 c1, .slice a2 m2 c2, .slice a3 n3 c3], .slice ak b.length ck, .slice av y.length cv] wx fun e w' => ∃ (r : Nd) (u : V4), e = .returned (.tuple #[v4 u, .int .i64 (pe t b y)]) ∧ (Nv (fun _ => True) w' r u ∧ PR t b y r) ∧ Below wx.heap.size wx w') := fun wx hn => by
    refine (tput_any t _ _ _ (.int .i64 k, .slice a1 n1 c1, .slice a2 m2 c2, .slice a3 n3 c3) wx hn.n (by omega) b _ (Bs_below hb hn.b) y _ (Bs_below hy hn.b)).mono fun e w' he => ?_
    obtain ⟨r, u, h1, h2, h3, h4⟩ := he
    exact ⟨r, u, h1, ⟨Nv_mono h2 (fun _ _ _ => trivial), h3⟩, h4⟩
  have KY : Hid (∀ wx : World, NB w.heap.size (.int .i64 k, .slice a1 n1 c1, .slice a2 m2 c2, .slice a3 n3 c3) t w.heap.size w wx → Calls Try.prog 14 #[.agg #[.int .i64 k, .slice a1 n1 c1, .slice a2 m2 c2, .slice a3 n3 c3], .slice ak b.length ck, .slice av y.length cv] wx fun e w' => ∃ (r : Nd) (u : V4), e = .returned (.tuple #[v4 u, .int .i64 (pe t b y)]) ∧ (Nv (fun _ => True) w' r u ∧ GR2 t b y r) ∧ Below wx.heap.size wx w') := fun wx hn => by
    refine (gput_any hso t hs _ _ _ (.int .i64 k, .slice a1 n1 c1, .slice a2 m2 c2, .slice a3 n3 c3) wx hn.n hw b _ (Bs_below hb hn.b) y _ (Bs_below hy hn.b) (fun l hl => Nat.le_trans (rt_less hl) hw)).mono fun e w' he => ?_
    obtain ⟨r, u, h1, h2, h3, h4⟩ := he
    exact ⟨r, u, h1, ⟨Nv_mono h2 (fun _ _ _ => trivial), h3⟩, h4⟩
  have R0 : Hid (NB w.heap.size (.int .i64 k, .slice a1 n1 c1, .slice a2 m2 c2, .slice a3 n3 c3) t w.heap.size w (w.alloc (.cells #[.int .i64 k, .slice a1 n1 c1, .slice a2 m2 c2, .slice a3 n3 c3] 25))) := N0
  clear N0 hx hw hs hb hy
  show Calls Try.prog _ #[.agg #[.int .i64 k, .slice a1 n1 c1, .slice a2 m2 c2, .slice a3 n3 c3], .slice ak b.length ck, .slice av y.length cv] w _
  have q0 := R0.out.bx.2.1
  have q1 := R0.out.bx.2.2.1
  have q2 := R0.out.bx.2.2.2.1
  have q3 := R0.out.bx.2.2.2.2
  dsimp only at q0 q1 q2 q3
  generalize hP : pe t b y = P at *
  generalize hW : (w.alloc (.cells #[.int .i64 k, .slice a1 n1 c1, .slice a2 m2 c2, .slice a3 n3 c3] 25)) = W1 at *
  go_enter Try.func5, Try.ntmps5
  go_wp2_with fail
  refine (KX.out _ R0.out).mono ?_
  rintro e w1 ⟨r1, u1, rfl, hr1, hb1⟩
  have R1 : Hid (NB w.heap.size (.int .i64 k, .slice a1 n1 c1, .slice a2 m2 c2, .slice a3 n3 c3) t w.heap.size w w1) := NB_below R0.out hb1
  have HR1 : Hid (Nv (fun _ => True) w1 r1 u1 ∧ PR t b y r1) := hr1
  obtain ⟨xk, xa1, xn1, xc1, xa2, xn2, xc2, xa3, xn3, xc3, rfl⟩ := Nv_form hr1.1
  have bA : Below w1.heap.size w1 (w1.alloc (.cells #[.int .i64 xk, .slice xa1 xn1 xc1, .slice xa2 xn2 xc2, .slice xa3 xn3 xc3] 25)) := (Below.refl _ _).alloc (Nat.le_refl _) _
  have BX1 := Bx_new w1 (.int .i64 xk, .slice xa1 xn1 xc1, .slice xa2 xn2 xc2, .slice xa3 xn3 xc3)
  dsimp only at BX1
  have R2 : Hid (NB w.heap.size (.int .i64 k, .slice a1 n1 c1, .slice a2 m2 c2, .slice a3 n3 c3) t w.heap.size w (w1.alloc (.cells #[.int .i64 xk, .slice xa1 xn1 xc1, .slice xa2 xn2 xc2, .slice xa3 xn3 xc3] 25))) := NB_below R1.out bA
  have HR2 : Hid (Nv (fun _ => True) (w1.alloc (.cells #[.int .i64 xk, .slice xa1 xn1 xc1, .slice xa2 xn2 xc2, .slice xa3 xn3 xc3] 25)) r1 (.int .i64 xk, .slice xa1 xn1 xc1, .slice xa2 xn2 xc2, .slice xa3 xn3 xc3) ∧ PR t b y r1) := ⟨Nv_below hr1.1 bA, hr1.2⟩
  have HBX : Hid (Bx w1.heap.size (.int .i64 xk, .slice xa1 xn1 xc1, .slice xa2 xn2 xc2, .slice xa3 xn3 xc3) (w1.alloc (.cells #[.int .i64 xk, .slice xa1 xn1 xc1, .slice xa2 xn2 xc2, .slice xa3 xn3 xc3] 25))) := BX1
  clear hb1 hr1 bA BX1 R0 R1 HR1 KX hW q0 q1 q2 q3
  simp only [v4]
  have q0 := R2.out.bx.2.1
  have q1 := R2.out.bx.2.2.1
  have q2 := R2.out.bx.2.2.2.1
  have q3 := R2.out.bx.2.2.2.2
  dsimp only at q0 q1 q2 q3
  go_wp2_with fail
  refine (KY.out _ R2.out).mono ?_
  rintro e w2 ⟨r2, u2, rfl, hr2, hb2⟩
  obtain ⟨zk, za1, zn1, zc1, za2, zn2, zc2, za3, zn3, zc3, rfl⟩ := Nv_form hr2.1
  have bB : Below w2.heap.size w2 (w2.alloc (.cells #[.int .i64 zk, .slice za1 zn1 zc1, .slice za2 zn2 zc2, .slice za3 zn3 zc3] 25)) := (Below.refl _ _).alloc (Nat.le_refl _) _
  have BX2 := Bx_new w2 (.int .i64 zk, .slice za1 zn1 zc1, .slice za2 zn2 zc2, .slice za3 zn3 zc3)
  dsimp only at BX2
  have BX1 := Bx_below (Bx_below HBX.out hb2) bB
  have hz := put_eq HR2.out.2 hr2.2
  have hN1 := Nv_below (Nv_below HR2.out.1 hb2) bB
  have hN2 := Nv_below hr2.1 bB
  have KS : Hid (∀ wx : World, wx = (w2.alloc (.cells #[.int .i64 zk, .slice za1 zn1 zc1, .slice za2 zn2 zc2, .slice za3 zn3 zc3] 25)) → Calls Try.prog 15 #[.agg #[.int .i64 xk, .slice xa1 xn1 xc1, .slice xa2 xn2 xc2, .slice xa3 xn3 xc3], .agg #[.int .i64 zk, .slice za1 zn1 zc1, .slice za2 zn2 zc2, .slice za3 zn3 zc3]] wx fun e w' => e = .returned (.bool true) ∧ Below w.heap.size w w') := fun wx ew => by
    subst ew
    have h := same_any (pr_sm HR2.out.2) r2 _ _ (.int .i64 xk, .slice xa1 xn1 xc1, .slice xa2 xn2 xc2, .slice xa3 xn3 xc3) (.int .i64 zk, .slice za1 zn1 zc1, .slice za2 zn2 zc2, .slice za3 zn3 zc3) _ hN1 hN2
    rw [hz] at h
    refine h.mono fun e w' he => ⟨he.1, ?_⟩
    have b3 := (NB_below (NB_below R2.out hb2) bB).b
    exact b3.trans (he.2.mono b3.size)
  have m0 := BX1.2.1
  have m1 := BX1.2.2.1
  have m2' := BX1.2.2.2.1
  have m3 := BX1.2.2.2.2
  have k0 := BX2.2.1
  have k1 := BX2.2.2.1
  have k2 := BX2.2.2.2.1
  have k3 := BX2.2.2.2.2
  dsimp only at m0 m1 m2' m3 k0 k1 k2 k3
  have cb : (P == P) = true := beq_self_eq_true P
  clear hb2 hr2 bB BX1 BX2 hz hN1 hN2 R2 HR2 HBX KY q0 q1 q2 q3
  simp only [v4]
  go_wp2_with fail
  refine (KS.out _ rfl).mono ?_
  rintro e w9 ⟨rfl, hb9⟩
  have HZ : Hid (Below w.heap.size w w9) := hb9
  clear hb9 KS m0 m1 m2' m3 k0 k1 k2 k3
  go_wp2_with fail
  go_ret
  exact ⟨rfl, HZ.out⟩
end Tr
end Go.Proofs.Ytdcbgldelfhohaa
/- The library's contract of slices.SortFunc, laid at this dump by the kit's own tool. -/
namespace Go.Proofs
open Go.Shelf
def Try.sortRt_ren : Go.Shelf.Ren := ⟨fun | 6 => 55 | 15 => 68 | 14 => 67 | 28 => 79 | 29 => 80 | 20 => 71 | 21 => 72 | 22 => 73 | 23 => 74 | 24 => 75 | 25 => 76 | 26 => 77 | 27 => 78 | 46 => 82 | 47 => 83 | 48 => 84 | 49 => 85 | 50 => 86 | 57 => 87 | n => n, fun | 22 => 47 | 24 => 51 | 25 => 94 | 3 => 3 | 39 => 78 | 0 => 0 | 53 => 119 | 55 => 121 | 4 => 4 | 46 => 112 | 45 => 111 | 50 => 116 | 5 => 5 | 9 => 9 | 66 => 122 | 70 => 126 | 76 => 128 | 77 => 129 | n => n, fun | n => n⟩
theorem Try.sortRt : Go.Proofs.SlLaysF0.n6 Try.prog Try.sortRt_ren := {
  mixed := by kernel_rfl
  f6 := ⟨Try.f55.name, by decide, Try.func55.trans (congrArg some (by kernel_rfl))⟩
  f14 := ⟨Try.f67.name, by decide, Try.func67.trans (congrArg some (by kernel_rfl))⟩
  f15 := Try.func68.trans (congrArg some (by kernel_rfl))
  f20 := ⟨Try.f71.name, by decide, Try.func71.trans (congrArg some (by kernel_rfl))⟩
  f21 := ⟨Try.f72.name, by decide, Try.func72.trans (congrArg some (by kernel_rfl))⟩
  f22 := ⟨Try.f73.name, by decide, Try.func73.trans (congrArg some (by kernel_rfl))⟩
  f23 := ⟨Try.f74.name, by decide, Try.func74.trans (congrArg some (by kernel_rfl))⟩
  f24 := ⟨Try.f75.name, by decide, Try.func75.trans (congrArg some (by kernel_rfl))⟩
  f25 := ⟨Try.f76.name, by decide, Try.func76.trans (congrArg some (by kernel_rfl))⟩
  f26 := ⟨Try.f77.name, by decide, Try.func77.trans (congrArg some (by kernel_rfl))⟩
  f27 := ⟨Try.f78.name, by decide, Try.func78.trans (congrArg some (by kernel_rfl))⟩
  f28 := Try.func79.trans (congrArg some (by kernel_rfl))
  f29 := Try.func80.trans (congrArg some (by kernel_rfl))
  f46 := ⟨Try.f82.name, by decide, Try.func82.trans (congrArg some (by kernel_rfl))⟩
  f47 := Try.func83.trans (congrArg some (by kernel_rfl))
  f48 := Try.func84.trans (congrArg some (by kernel_rfl))
  f49 := ⟨Try.f85.name, by decide, Try.func85.trans (congrArg some (by kernel_rfl))⟩
  f50 := ⟨Try.f86.name, by decide, Try.func86.trans (congrArg some (by kernel_rfl))⟩
  f57 := ⟨Try.f87.name, by decide, Try.func87.trans (congrArg some (by kernel_rfl))⟩
  t0 := Try.underlying0
  a0 := Try.isAgg0
  z0 := Try.sizeOf0
  v0 := Try.zeroValue0
  t3 := Try.underlying3
  a3 := Try.isAgg3
  z3 := Try.sizeOf3
  v3 := Try.zeroValue3
  t4 := Try.underlying4
  a4 := Try.isAgg4
  z4 := Try.sizeOf4
  v4 := Try.zeroValue4
  t5 := Try.underlying5
  a5 := Try.isAgg5
  z5 := Try.sizeOf5
  v5 := Try.zeroValue5
  t9 := Try.underlying9
  a9 := Try.isAgg9
  z9 := Try.sizeOf9
  v9 := Try.zeroValue9
  t22 := Try.underlying47
  a22 := Try.isAgg47
  z22 := Try.sizeOf47
  v22 := Try.zeroValue47
  t25 := Try.underlying94
  a25 := Try.isAgg94
  z25 := Try.sizeOf94
  v25 := Try.zeroValue94
  t39 := Try.underlying78
  a39 := Try.isAgg78
  z39 := Try.sizeOf78
  v39 := Try.zeroValue78
  t45 := Try.underlying111
  a45 := Try.isAgg111
  z45 := Try.sizeOf111
  v45 := Try.zeroValue111
  t46 := Try.underlying112
  a46 := Try.isAgg112
  z46 := Try.sizeOf112
  v46 := Try.zeroValue112
  t50 := Try.underlying116
  a50 := Try.isAgg116
  z50 := Try.sizeOf116
  v50 := Try.zeroValue116
  t53 := Try.underlying119
  a53 := Try.isAgg119
  z53 := Try.sizeOf119
  v53 := Try.zeroValue119
  t55 := Try.underlying121
  a55 := Try.isAgg121
  z55 := Try.sizeOf121
  v55 := Try.zeroValue121
  t66 := Try.underlying122
  a66 := Try.isAgg122
  z66 := Try.sizeOf122
  v66 := Try.zeroValue122
  t70 := Try.underlying126
  a70 := Try.isAgg126
  z70 := Try.sizeOf126
  v70 := Try.zeroValue126
  t76 := Try.underlying128
  a76 := Try.isAgg128
  z76 := Try.sizeOf128
  v76 := Try.zeroValue128
  t77 := Try.underlying129
  a77 := Try.isAgg129
  z77 := Try.sizeOf129
  v77 := Try.zeroValue129 }
end Go.Proofs
/- slices.SortFunc of routes, by their paths. -/
namespace Go.Proofs.Ytdcbgldelfhohaa
namespace Tr
open Nb Go.RowKit
theorem below_refl (lo : Nat) (w : World) : Below lo w w := Below.refl lo w
theorem brefl_grown {lo : Nat} {w w' : World} {g : Nat} (h : w.grownBy w' (some g)) (hlo : lo ≤ w.heap.size) (hg : lo ≤ g) : Below lo w w' := (Below.refl lo w).grown h hlo (fun k e => by injection e with e; omega)
open Go.Sort Go.Shelf
def enc2 (r : By × By) : List Value := [.string (st r.1), .string (st r.2)]
def cf2 (x y : By × By) : Int := Lib.compareBytes x.1 y.1
theorem cmp_less : ∀ a b : By, decide (Lib.compareBytes a b < 0) = Op.bytesLess a b
  | [], [] => by simp [Lib.compareBytes, Op.bytesLess]
  | [], _ :: _ => by simp [Lib.compareBytes, Op.bytesLess]
  | _ :: _, [] => by simp [Lib.compareBytes, Op.bytesLess]
  | x :: a, y :: b => by
    have ih := cmp_less a b
    by_cases h1 : x < y
    · simp [Lib.compareBytes, Op.bytesLess, h1]
    · by_cases h2 : x = y
      · subst h2
        simp [Lib.compareBytes, Op.bytesLess, ← ih]
      · have h3 : y < x := by
          rcases Nat.lt_trichotomy x.toNat y.toNat with h | h | h
          · exact absurd (UInt8.lt_iff_toNat_lt.2 h) h1
          · exact absurd (UInt8.toNat_inj.1 h) h2
          · exact UInt8.lt_iff_toNat_lt.2 h
        simp [Lib.compareBytes, Op.bytesLess, h1, h2, h3]
theorem lt2 (x y : By × By) : ltOf cf2 x y = true ↔ less x.1 y.1 := by
  unfold ltOf cf2 less
  rw [cmp_less]
theorem swo2 : SWO (ltOf cf2) where
  irrefl x := by
    cases h : ltOf cf2 x x with
    | false => rfl
    | true => exact absurd ((lt2 x x).1 h) (less_irrefl _)
  trans x y z h1 h2 := (lt2 x z).2 (less_trans _ _ _ ((lt2 x y).1 h1) ((lt2 y z).1 h2))
  ntrans x y z h1 h2 := by
    cases h : ltOf cf2 x z with
    | false => rfl
    | true =>
      exfalso
      have hxz := (lt2 x z).1 h
      have n1 : ¬ less x.1 y.1 := fun k => by rw [(lt2 x y).2 k] at h1; cases h1
      have n2 : ¬ less y.1 z.1 := fun k => by rw [(lt2 y z).2 k] at h2; cases h2
      rcases less_total x.1 y.1 with k | k | k
      · exact n1 k
      · rw [k] at hxz; exact n2 hxz
      · exact n2 (less_trans _ _ _ k hxz)
theorem c2_at2 : ∀ (L : Rt) (t : Nat), t < L.length * 2 → (c2 L)[t]? = some ((enc2 (L.getD (t / 2) n2))[t % 2]!)
  | [], t, h => absurd h (by simp)
  | r :: L, 0, _ => rfl
  | r :: L, 1, _ => rfl
  | r :: L, t + 2, h => by
    have ih := c2_at2 L t (by simp only [List.length_cons] at h; omega)
    have e1 : (t + 2) / 2 = t / 2 + 1 := by omega
    have e2 : (t + 2) % 2 = t % 2 := by omega
    rw [e1, e2, List.getD_cons_succ, ← ih]
    rfl
theorem flat_get (L : Rt) (t : Nat) (h : t < L.length * 2) : (flatK enc2 2 L.toArray)[t]! = (enc2 (L.getD (t / 2) n2))[t % 2]! := by
  rw [get_flatK enc2 2 L.toArray t (by simpa using h)]
  have hd : t / 2 < L.length := by omega
  have e : L.toArray[t / 2]! = L.getD (t / 2) n2 := by
    rw [List.getD_eq_getElem?_getD, List.getElem?_eq_getElem hd]
    simp [hd]
  rw [e]
set_option maxHeartbeats 1000000 in
theorem cmp_any (x y : By × By) (W : World) : Calls Try.prog 56 #[.agg #[.string (st x.1), .string (st x.2)], .agg #[.string (st y.1), .string (st y.2)]] W fun e w' => e = .returned (.int .i64 (cf2 x y)) ∧ ∃ q os', w' = Go.Sort.grow (W.drewN q) os' := by
  have hcon := fun W' => Try.strings_Compare (st x.1) (st y.1) W'
  have e : cf2 x y = Lib.compareBytes (st x.1).data.toList (st y.1).data.toList := rfl
  rw [e]
  clear e
  generalize Lib.compareBytes (st x.1).data.toList (st y.1).data.toList = r at hcon ⊢
  go_enter Try.func56, Try.ntmps56
  go_wp2_with (go_at_call 57; refine (hcon _).mono ?_; rintro e w' ⟨rfl, rfl⟩)
  go_ret
  exact ⟨rfl, 0, _, by rw [alloc_eq_grow, alloc_eq_grow, grow_grow]; rfl⟩
theorem heap_sortedK {w : World} {g n : Nat} {os : Array Obj} {cur : Array Value} {e : TypeId} {fr : Nat × Nat} (F : Array Value) (hb : w.heap[g]? = some (.cells cur e fr)) :
    (Go.Sort.grow (putRow id (Go.Sort.ahead w n) g 0 F) os).heap[g]? = some (.cells (putCells id 0 F cur) e fr) := by
  have hg : g < w.heap.size := (Array.getElem?_eq_some_iff.1 hb).1
  rw [heap_grow_old _ _ (by simpa using hg)]
  simp [putRow, mapBlock, Go.Sort.ahead, Array.getElem?_modify, hb, onCells]
theorem grownBy_sortedK {w : World} {g n : Nat} {os : Array Obj} (F : Array Value) : w.grownBy (Go.Sort.grow (putRow id (Go.Sort.ahead w n) g 0 F) os) (some g) := by
  refine ⟨rfl, rfl, rfl, by simp, fun k hk hne => ?_⟩
  rw [heap_grow_old _ _ (by simpa using hk)]
  have : g ≠ k := fun e => hne (by rw [e])
  simp [putRow, mapBlock, Go.Sort.ahead, Array.getElem?_modify, this]
theorem take_putK (cur : Array Value) (L : Rt) (h : L.length * 2 ≤ cur.size) : (putCells id 0 (flatK enc2 2 L.toArray) cur).toList.take (L.length * 2) = c2 L := by
  apply List.ext_getElem?
  intro j
  by_cases hj : j < L.length * 2
  · rw [List.getElem?_take_of_lt hj, Array.getElem?_toList, c2_at2 L j hj, ← flat_get L j hj]
    have hc : j < cur.size := by omega
    simp [putCells, hj, hc]
  · rw [List.getElem?_take_eq_none (by omega), List.getElem?_eq_none (by rw [c2_len]; omega)]
theorem holds_own {lo : Nat} {L : Rt} {g cap : Nat} {w : World} (h : Ow lo L (.slice (some ⟨g, 0, none⟩) L.length cap) w) : HoldsK enc2 2 w g 0 L.toArray := fun j hj => by
  have hj' : j < L.length * 2 := by simpa using hj
  refine ⟨?_, World.ownsRow.frozenAt h _⟩
  rw [Nat.zero_add, World.ownsRow.cellAt h j hj', c2_at2 L j hj', flat_get L j hj']
  rfl
theorem sort_some (lo : Nat) (L : Rt) (g cap : Nat) (w : World) (how : Ow lo L (.slice (some ⟨g, 0, none⟩) L.length cap) w) (hlo : lo ≤ w.heap.size) (hl : L.length ≤ 4194304) :
    Calls Try.prog 55 #[.slice (some ⟨g, 0, none⟩) L.length cap, .func (.func 56) #[] #[]] w fun e w' => e = .returned (.tuple #[]) ∧ ∃ L2 : Rt, L2.Perm L ∧ (L2.Pairwise fun a b => ¬ less b.1 a.1) ∧ Ow lo L2 (.slice (some ⟨g, 0, none⟩) L.length cap) w' ∧ Below lo w w' := by
  have eg : ∀ args w, (callFunc 56 args).run Try.prog w = .ok (.enter 56 args) w := enters_of Try.func56 (by kernel_rfl) rfl
  have hg := ow_low how
  have hcon := AnyQ.slices_SortFunc Try.sortRt 2 Try.isAgg51 Try.sizeOf51 enc2 (fun _ => rfl) (fun x v hv => by simp [enc2] at hv; rcases hv with rfl | rfl <;> rfl) cf2 swo2 56 #[] g 0 cap L.toArray w eg (fun _ _ _ _ x y => cmp_any x y _) (holds_own how) hg.2 (by simp; omega)
  have hcon' : Calls Try.prog 55 #[.slice (some ⟨g, 0, none⟩) L.length cap, .func (.func 56) #[] #[]] w _ := hcon
  refine hcon'.mono fun e w' he => ?_
  obtain ⟨e1, d', n, os, hp, hsd, rfl⟩ := he
  have hsz : d'.size = L.length := by simpa using hp.1
  have hlen : d'.toList.length = L.length := by simpa using hsz
  refine ⟨e1, d'.toList, ?_, ?_, ?_, ?_⟩
  · have h := hp.2.2
    have x1 : d'.extract 0 L.toArray.size = d' := by
      rw [show L.toArray.size = d'.size from by simp [hsz]]
      simp
    rw [x1] at h
    simpa using h
  · rw [List.pairwise_iff_getElem]
    intro i j hi hj hij hless
    have h := hsd i j (Nat.zero_le _) hij (by simp; omega)
    have y1 : d'[j]! = d'.toList[j] := by rw [getElem!_pos d' j (by omega)]; rfl
    have y2 : d'[i]! = d'.toList[i] := by rw [getElem!_pos d' i (by omega)]; rfl
    rw [y1, y2, (lt2 _ _).2 hless] at h
    cases h
  · rcases how.2 with ⟨h', _⟩ | ⟨g', cap', cur, h', hb, hgb, hnc, hcm, hcs, htake⟩
    · cases h'
    · injection h' with k1 _ k3
      injection k1 with k1
      injection k1 with k1
      subst k1 k3
      refine ⟨by rw [c2_len], .inr ⟨g, cap, _, by rw [hlen], hb, heap_sortedK _ hgb, by rw [hlen]; exact hnc, hcm, by simp [putCells, hcs], ?_⟩⟩
      have h := take_putK cur d'.toList (by rw [hlen, hcs]; omega)
      simpa using h
  · exact brefl_grown (grownBy_sortedK _) hlo hg.1
set_option maxHeartbeats 2000000 in
set_option maxRecDepth 100000 in
theorem ins_none (w : World) : Calls Try.prog 71 #[.slice none 0 0, .int .i64 0, .int .i64 0, .func (.func 56) #[] #[]] w fun e w' => e = .returned (.tuple #[]) ∧ w' = w := by
  go_enter Try.func71, Try.ntmps71
  go_wp2_with fail
  go_loopw [8] (fun i wr => i = .int .i64 1 ∧ wr = w) (fun _ _ => 0)
  case atStart => exact ⟨rfl, rfl⟩
  case round =>
    obtain ⟨rfl, rfl⟩ := hrel
    go_wp2_with fail
    go_end0
    exact ⟨rfl, rfl⟩
set_option maxHeartbeats 2000000 in
set_option maxRecDepth 100000 in
theorem pdq_none (lim : Value) (w : World) : Calls Try.prog 67 #[.slice none 0 0, .int .i64 0, .int .i64 0, lim, .func (.func 56) #[] #[]] w fun e w' => e = .returned (.tuple #[]) ∧ w' = w := by
  have KI : Hid (∀ wx : World, Calls Try.prog 71 #[.slice none 0 0, .int .i64 0, .int .i64 0, .func (.func 56) #[] #[]] wx fun e w' => e = .returned (.tuple #[]) ∧ w' = wx) := fun wx => ins_none wx
  go_enter Try.func67, Try.ntmps67
  go_wp2_with fail
  go_loopw [1, 2] (fun i j wr => i = .int .i64 0 ∧ j = .int .i64 0 ∧ wr = w) (fun _ _ _ => 0)
  case atStart => exact ⟨rfl, rfl, rfl⟩
  case round =>
    obtain ⟨rfl, rfl, rfl⟩ := hrel
    go_wp2_with fail
    refine (KI.out _).mono ?_
    rintro e w1 ⟨rfl, rfl⟩
    go_wp2_with fail
    (try simp only [Exit.inBlock, Exit.then])
    refine bodyPost_ret (results_none rfl _ _ _) rfl ?_
    exact ⟨rfl, rfl⟩
set_option maxHeartbeats 2000000 in
set_option maxRecDepth 100000 in
theorem sort_none (w : World) : Calls Try.prog 55 #[.slice none 0 0, .func (.func 56) #[] #[]] w fun e w' => e = .returned (.tuple #[]) ∧ w' = w := by
  have KB : Hid (∀ wx : World, Calls Try.prog 68 #[.int .u64 0] wx fun e w' => e = .returned (.int .i64 (Lib.bitLen (0 : Int).toNat)) ∧ w' = wx) := fun wx => Try.bits_Len 0 wx (by decide) (by decide)
  have KP : Hid (∀ (lim : Value) (wx : World), Calls Try.prog 67 #[.slice none 0 0, .int .i64 0, .int .i64 0, lim, .func (.func 56) #[] #[]] wx fun e w' => e = .returned (.tuple #[]) ∧ w' = wx) := fun lim wx => pdq_none lim wx
  go_enter Try.func55, Try.ntmps55
  go_wp2_with fail
  refine (KB.out _).mono ?_
  rintro e w1 ⟨rfl, rfl⟩
  go_wp2_with fail
  refine (KP.out _ _).mono ?_
  rintro e w1 ⟨rfl, rfl⟩
  go_wp2_with fail
  go_end0
  exact ⟨rfl, rfl⟩
theorem sort_ok : SortOk := fun lo L v w how hlo hl => by
  have how' := how
  rcases how'.2 with ⟨rfl, h0⟩ | ⟨g, cap, cur, rfl, _⟩
  · have hL : L = [] := List.length_eq_zero_iff.1 h0
    subst hL
    refine (sort_none w).mono fun e w' he => ?_
    obtain ⟨e1, rfl⟩ := he
    exact ⟨e1, [], List.Perm.refl _, List.Pairwise.nil, how, below_refl _ _⟩
  · refine (sort_some lo L g cap w how hlo hl).mono fun e w' he => ?_
    obtain ⟨e1, L2, h1, h2, h3, h4⟩ := he
    exact ⟨e1, L2, h1, h2, h3, h4⟩
end Tr
end Go.Proofs.Ytdcbgldelfhohaa
/- The law TreeGets. -/
namespace Go.Proofs.Ytdcbgldelfhohaa
namespace Tr
open Nb Go.RowKit
theorem vw_bs {b : By} {ao : Option Addr} {cap : Nat} {w : World} (hc : b.length ≤ cap) (h : Sp.Vw b ao w) : Bs (· < w.heap.size) b (.slice ao b.length cap) w :=
  ⟨ao, cap, rfl, hc, fun h0 => by
    obtain ⟨g, off, e, hg, hj⟩ := h h0
    exact ⟨g, off, e, hg, hg, hj⟩⟩
set_option maxHeartbeats 2000000 in
set_option maxRecDepth 100000 in
theorem law_gets (t : Nd) (hs : Sm t) (x : V4) (w : World) (hx : Nv (· < w.heap.size) w t x) (hw : wn t ≤ 1048576) (b : By) (kv : Value) (hb : Bs (· < w.heap.size) b kv w) :
    Calls Try.prog 4 #[v4 x, kv] w fun e w' => e = .returned (.bool true) ∧ Below w.heap.size w w' := by
  obtain ⟨k, a1, n1, c1, a2, m2, c2, a3, n3, c3, rfl⟩ := Nv_form hx
  obtain ⟨ak, ck, rfl, _⟩ := Bs_form hb
  have N0 := NB_new hx (Nat.le_refl _)
  have B0 := Bs_below hb N0.b
  have KX : Hid (∀ wx : World, NB w.heap.size (.int .i64 k, .slice a1 n1 c1, .slice a2 m2 c2, .slice a3 n3 c3) t w.heap.size w wx → Bs (· < w.heap.size) b (.slice ak b.length ck) wx → Calls Try.prog 11 #[.agg #[.int .i64 k, .slice a1 n1 c1, .slice a2 m2 c2, .slice a3 n3 c3], .slice ak b.length ck] wx fun e w' => (∃ a c, e = .returned (.tuple #[.slice a (gans t b).1.length c, .int .i64 (gans t b).2]) ∧ Bs (fun _ => True) (gans t b).1 (.slice a (gans t b).1.length c) w') ∧ Below wx.heap.size wx w') := fun wx hn hk => by
    refine (get_any t w.heap.size (.int .i64 k, .slice a1 n1 c1, .slice a2 m2 c2, .slice a3 n3 c3) wx hn.n hn.l (by omega) b _ hk).mono fun e w' he => ?_
    obtain ⟨⟨a, c, h1, h2⟩, h3⟩ := he
    exact ⟨⟨a, c, h1, Bs_mono h2 (fun _ _ _ => trivial)⟩, h3⟩
  have KY : Hid (∀ wx : World, NB w.heap.size (.int .i64 k, .slice a1 n1 c1, .slice a2 m2 c2, .slice a3 n3 c3) t w.heap.size w wx → Bs (· < w.heap.size) b (.slice ak b.length ck) wx → Calls Try.prog 12 #[.agg #[.int .i64 k, .slice a1 n1 c1, .slice a2 m2 c2, .slice a3 n3 c3], .slice ak b.length ck] wx fun e w' => (∃ a c, e = .returned (.tuple #[.slice a (gans t b).1.length c, .int .i64 (gans t b).2]) ∧ Bs (fun _ => True) (gans t b).1 (.slice a (gans t b).1.length c) w') ∧ Below wx.heap.size wx w') := fun wx hn hk =>
    gget_any t hs _ _ (.int .i64 k, .slice a1 n1 c1, .slice a2 m2 c2, .slice a3 n3 c3) wx hn.n hw b _ hk
  have R0 : Hid (NB w.heap.size (.int .i64 k, .slice a1 n1 c1, .slice a2 m2 c2, .slice a3 n3 c3) t w.heap.size w (w.alloc (.cells #[.int .i64 k, .slice a1 n1 c1, .slice a2 m2 c2, .slice a3 n3 c3] 25))) := N0
  have HK : Hid (Bs (· < w.heap.size) b (.slice ak b.length ck) (w.alloc (.cells #[.int .i64 k, .slice a1 n1 c1, .slice a2 m2 c2, .slice a3 n3 c3] 25))) := B0
  clear B0 N0 hx hw hs hb
  generalize gans t b = r at *
  obtain ⟨rb, re⟩ := r
  dsimp only at *
  show Calls Try.prog _ #[.agg #[.int .i64 k, .slice a1 n1 c1, .slice a2 m2 c2, .slice a3 n3 c3], .slice ak b.length ck] w _
  have q0 := R0.out.bx.2.1
  have q1 := R0.out.bx.2.2.1
  have q2 := R0.out.bx.2.2.2.1
  have q3 := R0.out.bx.2.2.2.2
  dsimp only at q0 q1 q2 q3
  generalize hW : (w.alloc (.cells #[.int .i64 k, .slice a1 n1 c1, .slice a2 m2 c2, .slice a3 n3 c3] 25)) = W1 at *
  go_enter Try.func4, Try.ntmps4
  go_wp2_with fail
  refine (KX.out _ R0.out HK.out).mono ?_
  rintro e w1 ⟨⟨xa, xc, rfl, hx1⟩, hb1⟩
  have R1 : Hid (NB w.heap.size (.int .i64 k, .slice a1 n1 c1, .slice a2 m2 c2, .slice a3 n3 c3) t w.heap.size w w1) := NB_below R0.out hb1
  have HK1 : Hid (Bs (· < w.heap.size) b (.slice ak b.length ck) w1) := Bs_below HK.out hb1
  have HX1 : Hid (Bs (fun _ => True) rb (.slice xa rb.length xc) w1) := hx1
  replace q0 := R1.out.bx.2.1
  replace q1 := R1.out.bx.2.2.1
  replace q2 := R1.out.bx.2.2.2.1
  replace q3 := R1.out.bx.2.2.2.2
  dsimp only at q0 q1 q2 q3
  clear hb1 hx1 R0 HK KX hW
  go_wp2_with fail
  refine (KY.out _ R1.out HK1.out).mono ?_
  rintro e w2 ⟨⟨ya, yc, rfl, hy2⟩, hb2⟩
  have HZ : Hid (Below w.heap.size w w2) := (NB_below R1.out hb2).b
  have cx := Sl_st (Bs_sl (Bs_below HX1.out hb2))
  have cy := Sl_st (Bs_sl hy2)
  have cb : (re == re) = true := beq_self_eq_true re
  have cl : (rb == rb) = true := beq_self_eq_true rb
  have cs := st_list rb
  clear hb2 hy2 R1 HK1 HX1 KY q0 q1 q2 q3
  go_wp2_with fail
  go_ret
  exact ⟨rfl, HZ.out⟩
end Tr
end Go.Proofs.Ytdcbgldelfhohaa
/- The law TreePuts and what slices.SortFunc does, together. -/
namespace Go.Proofs.Ytdcbgldelfhohaa
namespace Tr
theorem sort_ok' : SortOk := sort_ok
end Tr
end Go.Proofs.Ytdcbgldelfhohaa
/- Bytes that came in. -/
namespace Go.Proofs.Ytdcbgldelfhohaa
namespace Sp
open Go.ChangeShapes Go.WideShapes Go.ChangeAt Go.RowKit Go.Joins
theorem ownK : ownKnob Try.prog.godebug = none := by kernel_rfl
theorem laidOutK : laidOutB Try.prog = true := by kernel_rfl
theorem cellsU8 : Try.prog.cellsOf 5 = 1 := by kernel_rfl
theorem bytesU8 : Try.prog.bytesOf 5 = 1 := by kernel_rfl
/-- Numbers as bytes. -/
def ub (zs : List Int) : List UInt8 := zs.map fun z => UInt8.ofNat z.toNat
theorem ub_length (zs : List Int) : (ub zs).length = zs.length := by simp [ub]
theorem ub_bz (zs : List Int) (hz : ∀ z ∈ zs, 0 ≤ z ∧ z < 256) (j : Nat) (h : j < zs.length) : bz (ub zs) j = zs.getD j 0 := by
  have hm := hz zs[j] (List.getElem_mem h)
  have h2 : j < (ub zs).length := by rw [ub_length]; exact h
  unfold bz
  rw [List.getD_eq_getElem?_getD, List.getD_eq_getElem?_getD, List.getElem?_eq_getElem h2, List.getElem?_eq_getElem h]
  simp only [Option.getD_some, ub, List.getElem_map, UInt8.toNat_ofNat']
  omega
set_option maxRecDepth 100000 in
theorem open_bytes {H : Type} {enc : TypeId × Value → H} {W : World} {r : Reach} {b0 : Nat} {v : Value} {d : DataW H} {p : List MemPlace}
    (hv : Value.okWide Try.prog W r b0 22 v) (h : DataW.Trod enc Try.prog W 0 (fun _ => true) true 22 v d p) :
    ∃ (l : List UInt8) (ao : Option Addr) (cap : Nat), v = .slice ao l.length cap ∧ l.length ≤ cap ∧ Vw l ao W ∧ (l = [] ∨ ∃ elems spare, d = .slice elems spare ∧ elems.length = l.length) := by
  obtain ⟨a0, len, cap, rfl⟩ := okWide_slice Try.underlying22 hv
  obtain ⟨fuel, hf⟩ := h
  rcases open_ints Try.underlying22 Try.underlying5 cellsU8 hf with ⟨hcs, hx⟩ | ⟨a, len', cap', zs, hcs, _, hl, hm, hz, hx, hcell, hwz⟩
  · simp [Value.cells] at hcs
    obtain ⟨rfl, rfl, rfl⟩ := hcs
    exact ⟨[], none, 0, rfl, Nat.le_refl _, Vw_nil _ _, .inl rfl⟩
  · simp [Value.cells] at hcs
    obtain ⟨rfl, rfl, rfl⟩ := hcs
    simp only [if_true] at hz
    have hb : ∀ z ∈ zs, 0 ≤ z ∧ z < 256 := fun z hz' => by have := bounds_u8 (hwz z hz'); omega
    have hb' : ∀ z ∈ zs.take len, 0 ≤ z ∧ z < 256 := fun z hz' => hb z (List.mem_of_mem_take hz')
    have hlt : (ub (zs.take len)).length = len := by rw [ub_length, List.length_take]; omega
    simp only [Prod.mk.injEq] at hx
    refine ⟨ub (zs.take len), some a, cap, by rw [hlt], by rw [hlt]; exact hl, ?_, .inr ⟨_, _, hx.1, by simp [lits, hlt]; omega⟩⟩
    intro h0
    rw [hlt] at h0
    obtain ⟨b, off, rfl, hc⟩ := ints_at hcell (by omega)
    refine ⟨b, off, rfl, ?_, fun j hj => ?_⟩
    · exact World.block_lt_of_cell? W ⟨b, off + 0, none⟩ (hc 0 (by omega))
    · rw [hlt] at hj
      rw [hc j (by omega), ub_bz _ hb' j (by rw [List.length_take]; omega)]
      simp [List.getD_eq_getElem?_getD, hj]
end Sp
end Go.Proofs.Ytdcbgldelfhohaa
/- A slice of bytes that came in: its room too. -/
namespace Go.Proofs.Ytdcbgldelfhohaa
namespace Sp
open Go.ChangeShapes Go.WideShapes Go.ChangeAt Go.RowKit
set_option maxRecDepth 100000 in
theorem open_bytes2 {H : Type} {enc : TypeId × Value → H} {W : World} {r : Reach} {b0 : Nat} {v : Value} {d : DataW H} {p : List MemPlace}
    (hv : Value.okWide Try.prog W r b0 22 v) (h : DataW.Trod enc Try.prog W 0 (fun _ => true) true 22 v d p) :
    ∃ (l : List UInt8) (ao : Option Addr) (cap : Nat), v = .slice ao l.length cap ∧ l.length ≤ cap ∧ (cap : Int) ≤ 9223372036854775807 ∧ Vw l ao W ∧ (l = [] ∨ ∃ elems spare, d = .slice elems spare ∧ elems.length = l.length) := by
  obtain ⟨l, ao, cap, rfl, h1, h2, h3⟩ := open_bytes hv h
  refine ⟨l, ao, cap, rfl, h1, ?_, h2, h3⟩
  obtain ⟨fuel, hf⟩ := h
  rcases open_ints Try.underlying22 Try.underlying5 cellsU8 hf with ⟨hcs, _⟩ | ⟨a, len', cap', zs, hcs, _, _, hm, _⟩
  · simp [Value.cells] at hcs
    omega
  · simp [Value.cells] at hcs
    obtain ⟨_, _, rfl⟩ := hcs
    unfold maxLen at hm
    omega
end Sp
end Go.Proofs.Ytdcbgldelfhohaa
/- A node that came in. -/
namespace Go.Proofs.Ytdcbgldelfhohaa
namespace Tr
open Nb Go.ChangeShapes Go.WideShapes Go.ChangeAt Go.RowKit
theorem wnk_many : ∀ ks : List Nd, ks.length ≤ wnk ks
  | [] => Nat.zero_le _
  | .mk k p v js :: r => by
    have := wnk_many r
    unfold wnk wn
    rw [List.length_cons]; omega
theorem sm_wn {t : Nd} (h : Wf t) : wn t ≤ 4194304 → Sm t := by
  induction h with
  | mk k p v ks _ ih =>
    intro hw
    unfold wn at hw
    have h1 := wnk_many ks
    exact .mk k p v ks (by omega) (fun j hj => ih j hj (by have := wnk_one ks j hj; omega))
theorem blk1 {H : Type} (d : DataW H) : 1 ≤ Rows.uptoBulk d := by
  unfold Rows.uptoBulk
  split <;> omega
theorem blkN {H : Type} : ∀ l : List (DataW H), l.length ≤ Rows.uptoBulkAll l
  | [] => Nat.zero_le _
  | d :: r => by
    have h1 := blk1 d
    have h2 := blkN r
    rw [Rows.uptoBulkAll, List.length_cons]
    omega
theorem wnk_blk {H : Type} (G : Nat → Nd) (D : Nat → DataW H) : ∀ l : List Nat, (∀ i, i ∈ l → wn (G i) ≤ Rows.uptoBulk (D i)) → wnk (l.map G) ≤ Rows.uptoBulkAll (l.map D)
  | [], _ => Nat.zero_le _
  | i :: r, h => by
    have h1 := h i (List.mem_cons_self ..)
    have h2 := wnk_blk G D r (fun j hj => h j (List.mem_cons_of_mem _ hj))
    rw [List.map_cons, List.map_cons, Rows.uptoBulkAll]
    unfold wnk
    omega
theorem cellsNd : Try.prog.cellsOf 25 = 4 := by kernel_rfl
set_option maxRecDepth 100000 in
/-- A text, by its cells. -/
theorem text_of {H : Type} {enc : TypeId × Value → H} {W : World} {fuel : Nat} {cs : List Value} {x : DataW H × List MemPlace} (hf : DataW.trod enc Try.prog W 0 (fun _ => true) true fuel 22 cs = some x) :
    ∃ (b : By) (v : Value), cs = [v] ∧ Bs (· < W.heap.size) b v W ∧ b.length + 1 ≤ Rows.uptoBulk x.1 := by
  rcases open_ints Try.underlying22 Try.underlying5 Sp.cellsU8 hf with ⟨hcs, hx⟩ | ⟨a, len, cap, zs, hcs, _, hl, hm, hz, hx, hcell, hwz⟩
  · subst hcs
    exact ⟨[], _, rfl, Bs_nil _ _, blk1 _⟩
  · subst hcs
    simp only [if_true] at hz
    have hb : ∀ z ∈ zs, 0 ≤ z ∧ z < 256 := fun z hz' => by have := bounds_u8 (hwz z hz'); omega
    have hb' : ∀ z ∈ zs.take len, 0 ≤ z ∧ z < 256 := fun z hz' => hb z (List.mem_of_mem_take hz')
    have hlt : (Sp.ub (zs.take len)).length = len := by rw [Sp.ub_length, List.length_take]; omega
    refine ⟨Sp.ub (zs.take len), _, rfl, ⟨some a, cap, by rw [hlt], by rw [hlt]; exact hl, fun h0 => ?_⟩, ?_⟩
    · rw [hlt] at h0
      obtain ⟨b, off, rfl, hc⟩ := ints_at hcell (by omega)
      have hbw : b < W.heap.size := World.block_lt_of_cell? W ⟨b, off + 0, none⟩ (hc 0 (by omega))
      refine ⟨b, off, rfl, hbw, hbw, fun j hj => ?_⟩
      rw [hlt] at hj
      rw [hc j (by omega), Sp.ub_bz _ hb' j (by rw [List.length_take]; omega)]
      simp [List.getD_eq_getElem?_getD, hj]
    · subst hx
      have h := blkN (lits (H := H) .u8 (zs.take len))
      have e : (lits (H := H) .u8 (zs.take len)).length = len := by simp [lits]; omega
      rw [e] at h
      rw [hlt]
      show _ ≤ Rows.uptoBulk (.slice (lits .u8 (zs.take len)) (lits .u8 (zs.drop len)))
      rw [Rows.uptoBulk]
      omega
set_option maxRecDepth 100000 in
/-- A node, by its cells. -/
theorem node_of {H : Type} {enc : TypeId × Value → H} {W : World} : ∀ (N fuel : Nat), fuel ≤ N → ∀ (cs : List Value) (x : DataW H × List MemPlace), DataW.trod enc Try.prog W 0 (fun _ => true) true fuel 25 cs = some x →
    ∃ (t : Nd) (u : V4), cs = [u.1, u.2.1, u.2.2.1, u.2.2.2] ∧ Nv (· < W.heap.size) W t u ∧ wn t ≤ Rows.uptoBulk x.1
  | 0, 0, _, cs, x, h => by simp [DataW.trod] at h
  | N + 1, fuel, hN, cs, x, h => by
    obtain ⟨xs, n, rfl, rfl, hl, hlen, hf⟩ := DataW.trod_struct Try.underlying25 h
    match xs, hlen with
    | [y0, y1, y2, y3], _ =>
      have f0 := hf 0 _ rfl
      have f1 := hf 1 _ rfl
      have f2 := hf 2 _ rfl
      have f3 := hf 3 _ rfl
      rw [cellsNd] at hl
      match cs, hl with
      | [c0, c1, c2, c3], _ =>
        simp only [List.getElem?_cons_zero, List.getElem?_cons_succ] at f0 f1 f2 f3
        obtain ⟨q, e0, hy0⟩ := DataW.trod_int Try.underlying3 f0
        obtain ⟨b1, v1, e1, ht1, hb1⟩ := text_of f1
        obtain ⟨b2, v2, e2, ht2, hb2⟩ := text_of f2
        injection e0 with e0 _
        injection e1 with e1 _
        injection e2 with e2 _
        subst e0 e1 e2
        have hB : Rows.uptoBulk (DataW.agg ([y0, y1, y2, y3].map (·.1))) = Rows.uptoBulk y0.1 + (Rows.uptoBulk y1.1 + (Rows.uptoBulk y2.1 + (Rows.uptoBulk y3.1 + 0))) + 1 := by
          rw [Rows.uptoBulk]
          rfl
        have h0 := blk1 y0.1
        rcases DataW.trod_slice Try.underlying23 f3 with ⟨hcs, hx⟩ | ⟨a, len, cap, elems, rest, m, rfl, hcs, hx, _, hle, _, hel, hat, _, _⟩
        · injection hcs with hcs _
          subst hcs
          have h3 := blk1 y3.1
          exact ⟨.mk q b1 b2 [], (.int .i64 q, c1, c2, .slice none 0 0), rfl, .mk q b1 b2 [] _ _ _ [] ht1 ht2 rfl (Ks_nil _ _) (fun j hj => absurd hj (by simp)), by
            rw [hB]; unfold wn wnk; omega⟩
        · injection hcs with hcs _
          subst hcs
          have HI : ∀ i, ∃ p : Nd × V4, i < len → (∃ cs', W.cells? 0 (a.add (i * 4)) 4 = some cs' ∧ cs' = [p.2.1, p.2.2.1, p.2.2.2.1, p.2.2.2.2]) ∧ Nv (· < W.heap.size) W p.1 p.2 ∧ wn p.1 ≤ Rows.uptoBulk (elems.getD i (.nil, [])).1 := fun i => by
            by_cases hi : i < len
            · have k := hat i hi
              rw [cellsNd] at k
              rw [List.getElem?_eq_getElem (by omega)] at k
              cases hc : W.cells? 0 (a.add (i * 4)) 4 with
              | none => rw [hc] at k; cases k
              | some cs' =>
                rw [hc] at k
                obtain ⟨t, u, e1, e2, e3⟩ := node_of N m (by omega) cs' _ k
                refine ⟨(t, u), fun _ => ⟨⟨cs', rfl, e1⟩, e2, ?_⟩⟩
                rw [List.getD_eq_getElem?_getD, List.getElem?_eq_getElem (by omega)]
                exact e3
            · exact ⟨(Nd.no, n4), fun h => absurd h hi⟩
          obtain ⟨F, hF⟩ := Classical.axiomOfChoice HI
          have hks : ((List.range len).map fun i => (F i).1).length = len := by simp
          have hvs : ((List.range len).map fun i => (F i).2).length = len := by simp
          refine ⟨.mk q b1 b2 ((List.range len).map fun i => (F i).1), (.int .i64 q, c1, c2, .slice (some a) len cap), rfl, .mk q b1 b2 _ _ _ _ ((List.range len).map fun i => (F i).2) ht1 ht2 (by rw [hvs, hks]) ⟨some a, cap, by rw [hvs], by rw [hvs]; exact hle, fun hp => ?_⟩ (fun j hj => ?_), ?_⟩
          · rw [hvs] at hp
            obtain ⟨bl, off, spot⟩ := a
            obtain ⟨cs', k1, k2⟩ := (hF 0 hp).1
            obtain ⟨_, _, k3⟩ := World.cells?_some k1
            have k4 := k3 0 (by decide)
            rw [k2] at k4
            have hspot : spot = none := by simpa [Addr.add] using World.cell?_spot k4
            subst hspot
            have hbw : bl < W.heap.size := World.block_lt_of_cell? W _ (by simpa [Go.WideShapes.add_plain] using k4)
            refine ⟨bl, off, rfl, hbw, hbw, fun j hj => ?_⟩
            rw [hvs] at hj
            rw [getD_range _ _ _ _ hj]
            obtain ⟨cs2, k5, k6⟩ := (hF j hj).1
            obtain ⟨_, _, k7⟩ := World.cells?_some k5
            rw [Go.WideShapes.add_plain] at k7
            have g0 := k7 0 (by decide)
            have g1 := k7 1 (by decide)
            have g2 := k7 2 (by decide)
            have g3 := k7 3 (by decide)
            rw [Go.WideShapes.add_plain, k6] at g0 g1 g2 g3
            rw [Nat.mul_comm 4 j]
            exact ⟨g0, g1, g2, g3⟩
          · rw [hks] at hj
            rw [getD_range _ _ _ _ hj, getD_range _ _ _ _ hj]
            exact (hF j hj).2.1
          · have hw := wnk_blk (fun i => (F i).1) (fun i => (elems.getD i (.nil, [])).1) (List.range len) (fun i hi => (hF i (List.mem_range.1 hi)).2.2)
            have e2 : (List.range len).map (fun i => (elems.getD i (.nil, [])).1) = elems.map (·.1) := by
              apply List.ext_getElem
              · simp [hel]
              · intro i h1 h2
                have : i < elems.length := by simpa using h2
                simp [this]
            rw [e2] at hw
            have hy3 : Rows.uptoBulk y3.1 = Rows.uptoBulkAll (elems.map (·.1)) + Rows.uptoBulkAll (rest.map (·.1)) + 1 := by
              rw [hx, Rows.uptoBulk]
            rw [hB, hy3]
            unfold wn
            omega
set_option maxRecDepth 100000 in
theorem open_node {H : Type} {enc : TypeId × Value → H} {W : World} {r : Reach} {b0 : Nat} {v : Value} {d : DataW H} {p : List MemPlace}
    (hv : Value.okWide Try.prog W r b0 25 v) (h : DataW.Trod enc Try.prog W 0 (fun _ => true) true 25 v d p) :
    ∃ (t : Nd) (u : V4), v = v4 u ∧ Nv (· < W.heap.size) W t u ∧ wn t ≤ Rows.uptoBulk d := by
  obtain ⟨cs, rfl, _⟩ := okWide_struct Try.underlying25 hv
  obtain ⟨fuel, hf⟩ := h
  obtain ⟨t, u, e1, e2, e3⟩ := node_of fuel fuel (Nat.le_refl _) _ _ hf
  refine ⟨t, u, ?_, e2, e3⟩
  have e4 : cs.toList = [u.1, u.2.1, u.2.2.1, u.2.2.2] := e1
  unfold v4
  rw [← e4]
end Tr
end Go.Proofs.Ytdcbgldelfhohaa
