/- lampbearerref: one. -/
import Derived.Test.YtpgjgehkomoobaaPackE
import Derived.Test.YtpgjgehkomoobaaPackF
import Derived.Test.YtpgjgehkomoobaaPackD
import Derived.Test.YtpgjgehkomoobaaPackA
import Derived.ProofKit
import Derived.OpenShut
import Derived.ShutString
import Derived.ChangeOld
import Derived.Lib.SmallJoins
import Derived.SizedLaws
import Derived.Test.YtpgjgehkomoobaaPackC
import Derived.Deep.Cut
import Derived.Laws.IdiomArrays
namespace Go.Proofs.Ytpgjgehkomoobaa
namespace Kp
open Go.RowKit Go.Maps
open Mm (By lay grw gco cst od oc s6 s2 av An Mo dn spans tch spn Wf cut)
theorem grw_c32 (m : By) (e : Nat) (h : m.length % 32 = 0) : (grw m e).length = max (c32 e) m.length := by
  unfold grw c32
  rw [List.length_append, List.length_replicate]
  omega
theorem cut_rdl (m : By) (e f n : Nat) (h : f + n ≤ (grw m e).length) : cut (grw m e) f (f + n) = rdl m f n := by
  refine Mm.ext_at _ _ (by rw [Mm.cut_len _ _ _ h, rdl_len]; omega) fun i => ?_
  by_cases hi : i < n
  · rw [rdl_at _ _ _ _ hi, ← Mm.grw_at m e (f + i)]
    unfold cut
    simp [List.getD_eq_getElem?_getD, List.getElem?_drop, hi]
  · rw [List.getD_eq_getElem?_getD, List.getD_eq_getElem?_getD, List.getElem?_eq_none (by rw [Mm.cut_len _ _ _ h]; omega), List.getElem?_eq_none (by rw [rdl_len]; omega)]
theorem Wq_zero {m : By} {a : Nat} {d : By} {E : Dt} (h : Wq m a d 0 E) : Mq E m := fun p hp => by
  rw [h p hp, if_neg (by omega)]
theorem dgn {a : Nat} (h : a ≤ 1048576) : dg a 0 = (a : Int) := by
  rw [dg0]
  omega
/-- What one leaves behind. -/
def Pst (N : Nat) (m : By) (o : Mo) (w : World) (e : Ending) (w' : World) : Prop := ∃ b2, e = .returned (.tuple #[.agg #[.map (some b2), .int .u64 ((dn m o).2.length : Int)], av (dn m o).1]) ∧ KVn b2 (N + 4096) (dn m o).2 w' ∧ Below w.heap.size w w'
theorem pst_lay {N : Nat} {m : By} {o : Mo} {w : World} (V E a dl : Nat) (db : By) (hdn : dn m o = ((0, V, gco m E), lay (grw m E) a db)) (h32 : m.length % 32 = 0) (hl : db.length = dl) (hE : a + dl ≤ E) (hdl : dl ≤ 4096) {e : Ending} {w' : World}
    (h : ∃ b2, e = .returned (.tuple #[.agg #[.map (some b2), .int .u64 ((max (c32 E) m.length : Nat) : Int)], av (0, V, cst ((max (c32 E) m.length / 32 : Nat) : Int) - cst ((m.length / 32 : Nat) : Int))]) ∧ (b2 < w'.heap.size ∧ ∃ D : Dt, w'.ownsMap Try.prog 27 (plainElem Try.prog 5) b2 (N + dl) D ∧ Wq m a db dl D) ∧ Below w.heap.size w w') : Pst N m o w e w' := by
  obtain ⟨b2, rfl, ⟨hb, D, hD, hq⟩, hbel⟩ := h
  subst hl
  have hx : a + db.length ≤ (grw m E).length := Nat.le_trans hE (Mm.grw_ge m E h32)
  refine ⟨b2, ?_, ⟨hb, D, hD.mono (by omega), ?_⟩, hbel⟩
  · rw [hdn]
    show _ = Ending.returned (.tuple #[.agg #[.map (some b2), .int .u64 ((lay (grw m E) a db).length : Int)], av (0, V, gco m E)])
    rw [Mm.lay_len _ _ _ hx, grw_c32 m E h32, cost_is m E h32]
  · rw [hdn]
    exact Wq_end hq hx
theorem pst_grw {N : Nat} {m : By} {o : Mo} {w : World} (V E a : Nat) (hdn : dn m o = ((0, V, gco m E), grw m E)) (h32 : m.length % 32 = 0) {e : Ending} {w' : World}
    (h : ∃ b2, e = .returned (.tuple #[.agg #[.map (some b2), .int .u64 ((max (c32 E) m.length : Nat) : Int)], av (0, V, cst ((max (c32 E) m.length / 32 : Nat) : Int) - cst ((m.length / 32 : Nat) : Int))]) ∧ (b2 < w'.heap.size ∧ ∃ D : Dt, w'.ownsMap Try.prog 27 (plainElem Try.prog 5) b2 (N + 0) D ∧ Wq m a [] 0 D) ∧ Below w.heap.size w w') : Pst N m o w e w' := by
  obtain ⟨b2, rfl, ⟨hb, D, hD, hq⟩, hbel⟩ := h
  refine ⟨b2, ?_, ⟨hb, D, hD.mono (by omega), ?_⟩, hbel⟩
  · rw [hdn]
    show _ = Ending.returned (.tuple #[.agg #[.map (some b2), .int .u64 ((grw m E).length : Int)], av (0, V, gco m E)])
    rw [grw_c32 m E h32, cost_is m E h32]
  · rw [hdn]
    exact Mq_ext (Wq_zero hq) (fun p => Mm.grw_at m E p)
theorem pst_err {N b : Nat} {m : By} {o : Mo} {w : World} (c : Int) (hdn : dn m o = ((c, 0, 0), m)) (hn : KVn b N m w) {e : Ending} {w' : World}
    (h : e = .returned (.tuple #[.agg #[.map (some b), .int .u64 (m.length : Int)], av (c, 0, 0)]) ∧ Below w.heap.size w w') : Pst N m o w e w' := by
  obtain ⟨rfl, hbel⟩ := h
  obtain ⟨hb, D, hD, hq⟩ := hn
  refine ⟨b, by rw [hdn], ⟨Nat.lt_of_lt_of_le hb hbel.size, D, (hD.kept (gb_of_below hbel none) (by simp)).mono (by omega), ?_⟩, hbel⟩
  rw [hdn]
  exact hq
theorem rch0 (M a : Nat) : rch M a 0 = (M, true) := rfl
theorem rch1 {M a n : Nat} (hn : n ≠ 0) (h : a + n ≤ 4096) : rch M a n = (max (c32 (a + n)) M, true) := by unfold rch; rw [if_neg hn, if_pos h]
theorem rch2 {M a n : Nat} (hn : n ≠ 0) (h : ¬ a + n ≤ 4096) : rch M a n = (0, false) := by unfold rch; rw [if_neg hn, if_neg h]
theorem dn_err {m : By} {o : Mo} (c : Int) (hc : c ≠ 0) (h : (spans o).2.2 = c) : dn m o = ((c, 0, 0), m) := by
  unfold dn
  rw [if_pos (by rw [h]; exact hc), h]
theorem c32_le {e : Nat} (h : e ≤ 4096) : c32 e ≤ 4096 ∧ e ≤ c32 e := by unfold c32; omega
theorem gone {n : Nat} {o : Mo} (hk : o.k ≠ 4) (ht : tch o = (n, 0)) (hn : n ≠ 0) : (o.a + n ≤ 4096 → (spans o).2.2 = 0) ∧ (¬ o.a + n ≤ 4096 → (spans o).2.2 = 6) := by
  unfold spans
  rw [ht, if_neg (by simp), if_neg (fun h => hk h.1)]
  unfold spn
  rw [if_neg hn]
  exact ⟨fun h => by simp [h], fun h => by simp [h]⟩
theorem gone4 {o : Mo} (hk : o.k = 4) (hn : o.l ≠ 0) : (o.a + o.l ≤ 4096 ∧ o.f + o.l ≤ 4096 → (spans o).2.2 = 0) ∧ (¬ (o.a + o.l ≤ 4096 ∧ o.f + o.l ≤ 4096) → (spans o).2.2 = 6) := by
  unfold spans
  rw [Mm.tch4 hk, if_neg (by simp)]
  unfold spn
  simp only [if_neg hn, hk, if_true, true_and]
  by_cases h1 : o.f + o.l ≤ 4096 <;> by_cases h2 : o.a + o.l ≤ 4096 <;> simp [h1, h2]
theorem gone0 {o : Mo} (hk : o.k < 1 ∨ 5 < o.k) : (spans o).2.2 = 30 := by
  have ht : tch o = (0, 30) := by unfold tch; rw [if_neg (by omega), if_neg (by omega), if_neg (by omega), if_neg (by omega)]
  unfold spans
  rw [ht, if_pos (by decide)]
set_option maxHeartbeats 1000000 in
theorem kone_any (o : Mo) (ho : Wf o) (b N : Nat) (m : By) (w : World) (hn : KVn b N m w) (hN : N ≤ 4294963200) (h32 : m.length % 32 = 0) (h4 : m.length ≤ 4096) (S : Nat → Prop) (x : Value) (hd : Tr.Bs S o.d x w) :
    Calls Try.prog 10 #[.agg #[.map (some b), .int .u64 (m.length : Int)], od o.k o.a o.f o.l o.w x] w (Pst N m o w) := by
  have KI : Hid (∀ W : World, Calls Try.prog 17 #[.int .u64 32] W fun e w' => e = .returned (.agg #[.int .u64 (dg 32 0), .int .u64 (dg 32 1), .int .u64 (dg 32 2), .int .u64 (dg 32 3)]) ∧ Below W.heap.size W w') := fun W => wint_any 32 (by decide) W
  have KI1 : Hid (∀ W : World, Calls Try.prog 17 #[.int .u64 1] W fun e w' => e = .returned (.agg #[.int .u64 (dg 1 0), .int .u64 (dg 1 1), .int .u64 (dg 1 2), .int .u64 (dg 1 3)]) ∧ Below W.heap.size W w') := fun W => wint_any 1 (by decide) W
  have hv : Hid (KV b m w) := hn.kv (by omega)
  obtain ⟨hoa, hof, hol, hod⟩ := ho
  have KX : ∀ (a n X : Nat) (y : Bool), a < 2 ^ 256 → n < 2 ^ 256 → rch m.length a n = (X, y) → Hid (∀ W : World, KM w.heap.size b m W → Calls Try.prog 18 #[.pointer (some ⟨w.heap.size, 0, none⟩), .agg #[.int .u64 (dg a 0), .int .u64 (dg a 1), .int .u64 (dg a 2), .int .u64 (dg a 3)], .agg #[.int .u64 (dg n 0), .int .u64 (dg n 1), .int .u64 (dg n 2), .int .u64 (dg n 3)]] W fun e w' => e = .returned (.tuple #[.int .u64 (X : Int), .bool y]) ∧ Below W.heap.size W w') := fun a n X y ha hn0 hr W hk => by
    have := kreach_any w.heap.size b m a n W hk ha hn0 h4
    rw [hr] at this
    exact this
  have cl : ∀ e, e ≤ 4096 → max (c32 e) m.length ≤ 4096 := fun e he => by have := (c32_le he).1; omega
  have hZ : ∀ e, Hid (max ((max (c32 e) m.length : Nat) : Int) (m.length : Int) = ((max (c32 e) m.length : Nat) : Int)) := fun e => by show _ = _; omega
  by_cases h0 : o.k < 1 ∨ 5 < o.k
  · exact (kone_bad o.k o.a o.f o.l o.w x b m.length w h0 KI).mono fun e w' he => pst_err 30 (dn_err 30 (by decide) (gone0 h0)) hn he
  by_cases h1 : o.k = 1
  · have ht : tch o = (32, 0) := by unfold tch; rw [if_pos (.inl h1)]
    obtain ⟨g1, g2⟩ := gone (by omega) ht (by decide)
    by_cases hz : o.a + 32 ≤ 4096
    · have hdn : dn m o = ((0, Pk.vb 0 (rdl m o.a 32), gco m (o.a + 32)), grw m (o.a + 32)) := by
        unfold dn
        rw [if_neg (by rw [g1 hz]; simp), if_pos h1, cut_rdl _ _ _ _ (Mm.grw_ge m _ h32)]
      exact (kone_1 o.k o.a o.f o.l o.w x b m.length N _ _ m w h1 rfl hn hN hv (hZ (o.a + 32)) ⟨cl _ hz, Nat.le_max_right _ _, hz⟩ (dgn (by omega)) KI (KX _ _ _ _ hoa (by decide) (rch1 (by decide) hz)) (KX _ _ _ _ hoa (by decide) (rch0 _ _))).mono fun e w' he => pst_grw _ _ _ hdn h32 he
    · exact (kone_much1 o.k o.a o.f o.l o.w x b m.length m w h1 rfl hv KI (KX _ _ _ _ hoa (by decide) (rch2 (by decide) hz)) (KX _ _ _ _ hoa (by decide) (rch0 _ _))).mono fun e w' he => pst_err 6 (dn_err 6 (by decide) (g2 hz)) hn he
  by_cases h2 : o.k = 2
  · have ht : tch o = (32, 0) := by unfold tch; rw [if_pos (.inr h2)]
    obtain ⟨g1, g2⟩ := gone (by omega) ht (by decide)
    by_cases hz : o.a + 32 ≤ 4096
    · have hdn : dn m o = ((0, 0, gco m (o.a + 32)), lay (grw m (o.a + 32)) o.a (Pk.wb o.w)) := by
        unfold dn
        rw [if_neg (by rw [g1 hz]; simp), if_neg h1, if_pos h2]
      exact (kone_2 o.k o.a o.f o.l o.w x b m.length N _ _ m w h2 rfl hn hN hv (hZ (o.a + 32)) ⟨cl _ hz, Nat.le_max_right _ _, hz⟩ (dgn (by omega)) KI (KX _ _ _ _ hoa (by decide) (rch1 (by decide) hz)) (KX _ _ _ _ hoa (by decide) (rch0 _ _))).mono fun e w' he => pst_lay _ _ _ 32 _ hdn h32 (Pk.wb_len _) (Nat.le_refl _) (by decide) he
    · exact (kone_much2 o.k o.a o.f o.l o.w x b m.length m w h2 rfl hv KI (KX _ _ _ _ hoa (by decide) (rch2 (by decide) hz)) (KX _ _ _ _ hoa (by decide) (rch0 _ _))).mono fun e w' he => pst_err 6 (dn_err 6 (by decide) (g2 hz)) hn he
  by_cases h3 : o.k = 3
  · have ht : tch o = (1, 0) := by unfold tch; rw [if_neg (by omega), if_pos h3]
    obtain ⟨g1, g2⟩ := gone (by omega) ht (by decide)
    by_cases hz : o.a + 1 ≤ 4096
    · have hdn : dn m o = ((0, 0, gco m (o.a + 1)), lay (grw m (o.a + 1)) o.a [UInt8.ofNat o.w]) := by
        unfold dn
        rw [if_neg (by rw [g1 hz]; simp), if_neg h1, if_neg h2, if_pos h3]
      exact (kone_3 o.k o.a o.f o.l o.w x b m.length N _ _ m w h3 rfl hn hN hv (hZ (o.a + 1)) ⟨cl _ hz, Nat.le_max_right _ _, hz⟩ (dgn (by omega)) KI KI1 (KX _ _ _ _ hoa (by decide) (rch1 (by decide) hz)) (KX _ _ _ _ hoa (by decide) (rch0 _ _))).mono fun e w' he => pst_lay _ _ _ 1 _ hdn h32 rfl (Nat.le_refl _) (by decide) he
    · exact (kone_much3 o.k o.a o.f o.l o.w x b m.length m w h3 rfl hv KI KI1 (KX _ _ _ _ hoa (by decide) (rch2 (by decide) hz)) (KX _ _ _ _ hoa (by decide) (rch0 _ _))).mono fun e w' he => pst_err 6 (dn_err 6 (by decide) (g2 hz)) hn he
  by_cases h5 : o.k = 5
  · have ht : tch o = (o.d.length, 0) := by unfold tch; rw [if_neg (by omega), if_neg (by omega), if_neg (by omega), if_pos h5]
    have KI5 : Hid (∀ W : World, Calls Try.prog 17 #[.int .u64 (o.d.length : Int)] W fun e w' => e = .returned (.agg #[.int .u64 (dg o.d.length 0), .int .u64 (dg o.d.length 1), .int .u64 (dg o.d.length 2), .int .u64 (dg o.d.length 3)]) ∧ Below W.heap.size W w') := fun W => wint_any o.d.length (by omega) W
    have hd256 : o.d.length < 2 ^ 256 := by omega
    obtain ⟨ao, cap, rfl, hcap, hrd⟩ := hd
    by_cases hl : o.d.length = 0
    · have hdn : dn m o = ((0, 0, gco m 0), grw m 0) := by
        unfold dn
        rw [if_neg (by rw [Mm.spans_0 (by omega) (by rw [ht, hl])]; simp), if_neg h1, if_neg h2, if_neg h3, if_neg (by omega), if_pos hl, Mm.gco_0, Mm.grw_0]
      have e0 : rch m.length o.a o.d.length = (max (c32 0) m.length, true) := by
        rw [hl, rch0]
        congr 1
      exact (kone_5z o.k o.a o.f o.l o.w ao o.d.length cap hod b m.length N _ _ m w h5 rfl hn hN hv (hZ 0) ⟨cl _ (by decide), Nat.le_max_right _ _, trivial⟩ hl KI KI5 (KX _ _ _ _ hoa hd256 e0) (KX _ _ _ _ hoa (by decide) (rch0 _ _))).mono fun e w' he => pst_grw _ _ _ hdn h32 he
    · obtain ⟨g1, g2⟩ := gone (by omega) ht hl
      by_cases hz : o.a + o.d.length ≤ 4096
      · obtain ⟨gd, off, rfl, hS, hgd, hc⟩ := hrd (by omega)
        have hdn : dn m o = ((0, 0, gco m (o.a + o.d.length)), lay (grw m (o.a + o.d.length)) o.a o.d) := by
          unfold dn
          rw [if_neg (by rw [g1 hz]; simp), if_neg h1, if_neg h2, if_neg h3, if_neg (by omega), if_neg hl]
        exact (kone_5 o.k o.a o.f o.l o.w gd off o.d.length cap o.d hod b m.length N _ _ m w ⟨hgd, hc⟩ h5 rfl hn hN hv (hZ (o.a + o.d.length)) ⟨cl _ hz, Nat.le_max_right _ _, hz⟩ (dgn (by omega)) KI KI5 (KX _ _ _ _ hoa hd256 (rch1 hl hz)) (KX _ _ _ _ hoa (by decide) (rch0 _ _))).mono fun e w' he => pst_lay _ _ _ _ _ hdn h32 rfl (Nat.le_refl _) (by omega) he
      · exact (kone_much5 o.k o.a o.f o.l o.w ao o.d.length cap hod b m.length m w h5 rfl hv KI KI5 (KX _ _ _ _ hoa hd256 (rch2 hl hz)) (KX _ _ _ _ hoa (by decide) (rch0 _ _))).mono fun e w' he => pst_err 6 (dn_err 6 (by decide) (g2 hz)) hn he
  have h4' : o.k = 4 := by omega
  by_cases hl : o.l = 0
  · have hdn : dn m o = ((0, 0, gco m 0), grw m 0) := by
      unfold dn
      rw [if_neg (by rw [Mm.spans_40 h4' hl]; simp), if_neg h1, if_neg h2, if_neg h3, if_pos h4', if_pos hl, Mm.gco_0, Mm.grw_0]
    have e0 : ∀ a, rch m.length a o.l = (max (c32 0) m.length, true) := fun a => by
      rw [hl, rch0]
      congr 1
    exact (kone_4z o.k o.a o.f o.l o.w x b m.length N _ _ _ m w h4' rfl hn hN hv (by show max ((max (c32 0) m.length : Nat) : Int) ((max (c32 0) m.length : Nat) : Int) = ((max (c32 0) m.length : Nat) : Int); omega) ⟨cl _ (by decide), Nat.le_max_right _ _, trivial⟩ hl KI (KX _ _ _ _ hoa hol (e0 _)) (KX _ _ _ _ hof hol (e0 _))).mono fun e w' he => pst_grw _ _ _ hdn h32 he
  · obtain ⟨g1, g2⟩ := gone4 h4' hl
    by_cases hz : o.a + o.l ≤ 4096
    · by_cases hy : o.f + o.l ≤ 4096
      · have hx : max (o.a + o.l) (o.f + o.l) ≤ 4096 := by omega
        have hdn : dn m o = ((0, 0, gco m (max (o.a + o.l) (o.f + o.l))), lay (grw m (max (o.a + o.l) (o.f + o.l))) o.a (rdl m o.f o.l)) := by
          unfold dn
          rw [if_neg (by rw [g1 ⟨hz, hy⟩]; simp), if_neg h1, if_neg h2, if_neg h3, if_pos h4', if_neg hl, cut_rdl _ _ _ _ (Nat.le_trans (Nat.le_max_right _ _) (Mm.grw_ge m _ h32))]
        exact (kone_4 o.k o.a o.f o.l o.w x b m.length N _ _ (max (c32 (max (o.a + o.l) (o.f + o.l))) m.length) m w h4' rfl hn hN hv (by show max ((max (c32 (o.a + o.l)) m.length : Nat) : Int) ((max (c32 (o.f + o.l)) m.length : Nat) : Int) = _; unfold c32; omega) ⟨cl _ hx, Nat.le_max_right _ _, hz, hy⟩ (dgn (by omega)) (dgn (by omega)) (dgn (by omega)) (Nat.pos_of_ne_zero hl) KI (KX _ _ _ _ hoa hol (rch1 hl hz)) (KX _ _ _ _ hof hol (rch1 hl hy))).mono fun e w' he => pst_lay _ _ _ o.l _ hdn h32 (rdl_len _ _ _) (Nat.le_max_left _ _) (by omega) he
      · exact (kone_much4b o.k o.a o.f o.l o.w x b m.length _ m w h4' rfl hv KI (KX _ _ _ _ hoa hol (rch1 hl hz)) (KX _ _ _ _ hof hol (rch2 hl hy))).mono fun e w' he => pst_err 6 (dn_err 6 (by decide) (g2 (fun h => hy h.2))) hn he
    · exact (kone_much4a o.k o.a o.f o.l o.w x b m.length _ _ m w h4' rfl hv KI (KX _ _ _ _ hoa hol (rch2 hl hz)) (KX _ _ (rch m.length o.f o.l).1 (rch m.length o.f o.l).2 hof hol rfl)).mono fun e w' he => pst_err 6 (dn_err 6 (by decide) (g2 (fun h => hz h.1))) hn he
end Kp
end Go.Proofs.Ytpgjgehkomoobaa
/- lampbearerref: KPlay. -/
namespace Go.Proofs.Ytpgjgehkomoobaa
namespace Kp
open Go.RowKit Go.Maps
open Mm (By lay grw gco cst od oc s6 s2 av An Mo dn spans tch spn Wf cut mi an no Mr a6 Mw)
theorem mi_Mw (l : List Mo) : ∀ i, Mw (mi l i)
  | 0 => ⟨rfl, Nat.zero_le _⟩
  | i + 1 => (Mm.dn_paid _ _ (mi_Mw l i)).2.1
/-- The cells of the first i answers. -/
def ansl (l : List Mo) : Nat → List Value
  | 0 => []
  | i + 1 => ansl l i ++ a6 (an l i)
theorem map_ne {P : Program} {k : TypeId} {R : Value → Option (DataW Unit × List MemPlace)} {b n g o : Nat} {D : Dt} {W : World} {v : Value} (h : W.ownsMap P k R b n D) (hc : W.cell? ⟨g, o, none⟩ = some v) : b ≠ g := fun e => by
  subst e
  obtain ⟨es, clock, hb, _⟩ := h
  simp [World.cell?, hb] at hc
theorem map_row {P : Program} {k e : TypeId} {R : Value → Option (DataW Unit × List MemPlace)} {b n B s i : Nat} {D : Dt} {W : World} {v : Value} {xs : List Value} (h : W.ownsMap P k R b n D) (hr : W.ownsRow B e s v i xs) : some b ≠ v.ownBlock := fun e => by
  obtain ⟨es, clock, hb, _⟩ := h
  rcases hr.2 with ⟨rfl, _⟩ | ⟨g, cap, cur, rfl, _, hg, _⟩
  · cases e
  · have e2 : b = g := by injection e
    subst e2
    rw [hb] at hg
    cases hg
theorem KVn.kept {b N : Nat} {m : By} {W W' : World} {r : Option Nat} (h : KVn b N m W) (g : W.grownBy W' r) (hne : some b ≠ r) : KVn b N m W' := by
  obtain ⟨hb, D, hD, hq⟩ := h
  exact ⟨Nat.lt_of_lt_of_le hb g.size, D, hD.kept g hne, hq⟩
theorem KVn.set {b N : Nat} {m : By} {W : World} (h : KVn b N m W) {g i : Nat} (hp : b ≠ g) (u : Value) : KVn b N m (W.setCell ⟨g, i, none⟩ u) := h.kept (gb_set W g i u) (fun e => hp (Option.some.inj e))
theorem row_set {B s n : Nat} {e : TypeId} {v : Value} {xs : List Value} {W : World} (h : W.ownsRow B e s v n xs) {g i : Nat} (hp : v.ownBlock ≠ some g) (u : Value) : (W.setCell ⟨g, i, none⟩ u).ownsRow B e s v n xs := h.kept (gb_set W g i u) (.inr hp)
/-- What holds behind i operations. -/
structure KS (w : World) (l : List Mo) (i b : Nat) (v : Value) (W : World) : Prop where
  hd : Hm.Hd w [⟨w.heap.size + 1, 2, kv b (mi l i).length⟩] W
  kv : KVn b (4096 * i) (mi l i) W
  ow : W.ownsRow (w.heap.size + 2) 34 6 v i (ansl l i)
theorem KS.below {w : World} {l : List Mo} {i b : Nat} {v : Value} {W W' : World} (h : KS w l i b v W) (hb : Below W.heap.size W W') : KS w l i b v W' :=
  ⟨Hm.below h.hd hb, h.kv.kept (gb_of_below hb none) (by simp), h.ow.kept (gb_of_below hb none) (by rcases v.ownBlock with _ | q <;> simp)⟩
/-- An answer behind a row of one's own. -/
theorem appA {base i : Nat} {xs : List Value} {v : Value} {w : World} (x : An) (h : w.ownsRow base 34 6 v i xs) (hbase : base ≤ w.heap.size) (hlen : i + 1 ≤ 4194304) :
    ∃ v' w', (Builtin.append_ #[23, 23] 23 #[v, .slice (some ⟨w.heap.size, 0, none⟩) 1 1]).run Try.prog (w.alloc (.cells (a6 x).toArray 34)) = .ok v' w' ∧ w'.ownsRow base 34 6 v' (i + 1) (xs ++ a6 x) ∧ (w.alloc (.cells (a6 x).toArray 34)).grownBy w' v.ownBlock := by
  obtain ⟨i0, hi, hz0, hz1, hz2⟩ := info_parts Mm.infoA
  obtain ⟨v', w', hr, ho, hgr, _⟩ := run_append_own (P := Try.prog) (w.alloc (.cells (a6 x).toArray 34)) base 23 23 34 i0 _ 6 48 Try.underlying23 hi hz0 hz1 hz2 rfl (by decide) v i xs (h.alloc _) ⟨w.heap.size, 0, none⟩ 1 1 (a6 x) rfl
      (fun j u hj => by
        have : (w.alloc (.cells (a6 x).toArray 34)).cell? ⟨w.heap.size, j, none⟩ = some u := by
          simp only [World.cell?, heap_alloc_new]
          simpa using hj
        by_cases h0 : j = 0
        · subst h0
          exact this
        · simpa [Addr.add, h0] using this) (fun u hu => by
        simp only [a6, List.mem_cons, List.not_mem_nil, or_false] at hu
        rcases hu with rfl | rfl | rfl | rfl | rfl | rfl <;> rfl) (by unfold maxLen; omega) (by omega) (Nat.le_trans hbase (by simp))
  exact ⟨v', w', hr, ho, hgr⟩
set_option maxHeartbeats 2000000 in
set_option maxRecDepth 100000 in
theorem kplay_walk (l : List Mo) (hl : Hid (∀ j, j < l.length → Wf (l.getD j no))) (ao : Option Addr) (n cap : Nat) (w : World) (hn : Hid (n = l.length)) (hz : Hid (n ≤ 1048576)) (hm : Hid (Mr (· < w.heap.size) l (.slice ao n cap) w)) :
    Calls Try.prog 5 #[.slice ao n cap] w fun e w' => ∃ v u, e = .returned (.tuple #[v, u]) ∧ w'.ownsRow (w.heap.size + 2) 34 6 v n (ansl l n) ∧ Tr.Bs (w.heap.size ≤ ·) (mi l n) u w' ∧ Below w.heap.size w w' := by
  have hmm := @run_makeMap Try.prog
  go_enter Try.func5, Try.ntmps5
  go_upto_region 4 with fail
  clear hmm
  have K0 : Hid (KS w l 0 w.heap.size (.slice none 0 0) ((w.alloc (.map #[] 0)).alloc (.cells #[.map (some w.heap.size), .int .u64 0] 43))) := by
    refine ⟨newB (g := w.heap.size + 1) (n := 2) (F := kv w.heap.size 0) (T := 43) (Hm.al (Hm.start w) _) (by simp) (kv_of w.heap.size 0), ⟨by simp; omega, .map [], (World.ownsMap_made _ _ _ _).alloc _, Mq_none⟩, World.ownsRow_nil _ _ _ _⟩
  generalize (w.alloc (.map #[] 0)).alloc (.cells #[.map (some w.heap.size), .int .u64 0] 43) = w0 at K0 ⊢
  go_loopw [5, 13] (fun p s wr => ∃ (i b : Nat), i ≤ n ∧ s = .int .i64 (i : Int) ∧ KS w l i b p wr) (fun _ s _ => ((n : Int) - intOf s).toNat)
  case atStart => exact ⟨0, _, Nat.zero_le _, rfl, K0.out⟩
  case round =>
    clear K0
    obtain ⟨i, b, hi, rfl, hp⟩ := hrel
    by_cases hlt : i < n
    · have d0 : (0 : Int) ≤ (i : Int) := by omega
      have d1 : (i : Int) < (n : Int) := by omega
      have HP : Hid _ := hp
      obtain ⟨ds, ao', cap', hds, ev, hcap, hrow⟩ := hm.out
      injection ev with ev1 ev2 ev3
      subst ev1 ev3
      clear ev2
      obtain ⟨h, off, rfl, hS, hlt2, hj⟩ := hrow (by rw [← hn.out]; omega)
      obtain ⟨hc, hb⟩ := hj i (by rw [← hn.out]; exact hlt)
      have ho : Hid (Wf (l.getD i no)) := hl.out i (by rw [← hn.out]; exact hlt)
      have hcw : ∀ o, o < 18 → wr.cell? ⟨h, off + 18 * i + o, none⟩ = some (oc (l.getD i no).k (l.getD i no).a (l.getD i no).f (l.getD i no).l (l.getD i no).w (ds.getD i undef) o) := fun o ho => (hp.hd.bel.cell (p := ⟨h, off + 18 * i + o, none⟩) hlt2).trans (hc o ho)
      have HBS : Hid (Tr.Bs (· < w.heap.size) (l.getD i no).d (ds.getD i undef) w) := hb
      have EI : Hid (mi l (i + 1) = (dn (mi l i) (l.getD i no)).2 ∧ ansl l (i + 1) = ansl l i ++ a6 (dn (mi l i) (l.getD i no)).1) := ⟨rfl, rfl⟩
      generalize l.getD i no = o at *
      generalize ds.getD i undef = x at *
      rw [Nat.mul_comm 18 i] at hcw
      have HC : Hid _ := hcw
      clear hp hc hb hcw hj hrow hds hcap hS
      obtain ⟨ax, dc, ex, _⟩ := HBS.out
      obtain ⟨dl, edl⟩ : ∃ dl, dl = o.d.length := ⟨_, rfl⟩
      rw [← edl] at ex
      clear edl
      subst ex
      go_upto_region 5 with fail
      refine wp_region_lit ?_
      refine RF.go (by kernel_rfl) ?_
      go_simp
      refine Mm.ldO 15 h (off + i * 18) o.k o.a o.f o.l o.w (.slice ax dl dc) rfl rfl rfl HC.out ?_
      unfold od
      go_upto_region 7 with fail
      clear HC
      obtain ⟨g7, e7⟩ : ∃ g7, g7 = wr.heap.size := ⟨_, rfl⟩
      rw [← e7]
      have k1 : KS w l i b u5 ((wr.alloc (.cells #[.int .i64 o.k, .int .u64 (dg o.a 0), .int .u64 (dg o.a 1), .int .u64 (dg o.a 2), .int .u64 (dg o.a 3), .int .u64 (dg o.f 0), .int .u64 (dg o.f 1), .int .u64 (dg o.f 2), .int .u64 (dg o.f 3), .int .u64 (dg o.l 0), .int .u64 (dg o.l 1), .int .u64 (dg o.l 2), .int .u64 (dg o.l 3), .int .u64 (dg o.w 0), .int .u64 (dg o.w 1), .int .u64 (dg o.w 2), .int .u64 (dg o.w 3), .slice ax dl dc] 39)).alloc (.cells #[.int .i64 0, .int .u64 0, .int .u64 0, .int .u64 0, .int .u64 0, .int .u64 0] 34)) := (HP.out.below ((Below.refl _ _).alloc (Nat.le_refl _) _)).below ((Below.refl _ _).alloc (Nat.le_refl _) _)
      have m2 : Hm.Hd w [⟨g7 + 1, 6, s6 0 0 0⟩, ⟨g7, 18, oc o.k o.a o.f o.l o.w (.slice ax dl dc)⟩, ⟨w.heap.size + 1, 2, kv b (mi l i).length⟩] ((wr.alloc (.cells #[.int .i64 o.k, .int .u64 (dg o.a 0), .int .u64 (dg o.a 1), .int .u64 (dg o.a 2), .int .u64 (dg o.a 3), .int .u64 (dg o.f 0), .int .u64 (dg o.f 1), .int .u64 (dg o.f 2), .int .u64 (dg o.f 3), .int .u64 (dg o.l 0), .int .u64 (dg o.l 1), .int .u64 (dg o.l 2), .int .u64 (dg o.l 3), .int .u64 (dg o.w 0), .int .u64 (dg o.w 1), .int .u64 (dg o.w 2), .int .u64 (dg o.w 3), .slice ax dl dc] 39)).alloc (.cells #[.int .i64 0, .int .u64 0, .int .u64 0, .int .u64 0, .int .u64 0, .int .u64 0] 34)) := newB (g := g7 + 1) (n := 6) (Mm.newO o.k o.a o.f o.l o.w (.slice ax dl dc) (g := g7) HP.out.hd e7) (by simp [e7]) (Mm.y6_of 0)
      have RB : Hid (∀ q, u5.ownBlock = some q → w.heap.size + 2 ≤ q ∧ q < g7) := fun q hq => by rw [e7]; exact HP.out.ow.lt q hq
      have G7 : Hid (w.heap.size + 1 < g7) := by rw [e7]; exact (HP.out.hd.ok ⟨w.heap.size + 1, 2, kv b (mi l i).length⟩ (by simp)).hi
      clear HP e7
      generalize ((wr.alloc (.cells #[.int .i64 o.k, .int .u64 (dg o.a 0), .int .u64 (dg o.a 1), .int .u64 (dg o.a 2), .int .u64 (dg o.a 3), .int .u64 (dg o.f 0), .int .u64 (dg o.f 1), .int .u64 (dg o.f 2), .int .u64 (dg o.f 3), .int .u64 (dg o.l 0), .int .u64 (dg o.l 1), .int .u64 (dg o.l 2), .int .u64 (dg o.l 3), .int .u64 (dg o.w 0), .int .u64 (dg o.w 1), .int .u64 (dg o.w 2), .int .u64 (dg o.w 3), .slice ax dl dc] 39)).alloc (.cells #[.int .i64 0, .int .u64 0, .int .u64 0, .int .u64 0, .int .u64 0, .int .u64 0] 34)) = W2 at k1 m2 ⊢
      generalize (Value.agg #[.int .i64 o.k, .int .u64 (dg o.a 0), .int .u64 (dg o.a 1), .int .u64 (dg o.a 2), .int .u64 (dg o.a 3), .int .u64 (dg o.f 0), .int .u64 (dg o.f 1), .int .u64 (dg o.f 2), .int .u64 (dg o.f 3), .int .u64 (dg o.l 0), .int .u64 (dg o.l 1), .int .u64 (dg o.l 2), .int .u64 (dg o.l 3), .int .u64 (dg o.w 0), .int .u64 (dg o.w 1), .int .u64 (dg o.w 2), .int .u64 (dg o.w 3), .slice ax dl dc] : Value) = V1
      have K2 : Hid _ := k1
      have p0 : W2.cell? ⟨w.heap.size + 1, 0, none⟩ = some (.map (some b)) := (m2.ok ⟨w.heap.size + 1, 2, kv b (mi l i).length⟩ (by simp)).c 0 (show 0 < 2 by decide)
      have p1 : W2.cell? ⟨w.heap.size + 1, 1, none⟩ = some (.int .u64 ((mi l i).length : Int)) := (m2.ok ⟨w.heap.size + 1, 2, kv b (mi l i).length⟩ (by simp)).c 1 (show 1 < 2 by decide)
      have c7 := Mm.oc0 (m2.ok ⟨g7, 18, oc o.k o.a o.f o.l o.w (.slice ax dl dc)⟩ (by simp)).c
      have C7 : Hid _ := c7
      have M2 : Hid _ := m2
      clear k1 m2 c7
      go_wp2_with (refine Mm.ldO 7 g7 0 o.k o.a o.f o.l o.w (.slice ax dl dc) rfl rfl rfl C7.out ?_)
      refine (kone_any o ho.out b (4096 * i) (mi l i) W2 K2.out.kv (by have := hz.out; omega) (mi_Mw l i).1 (mi_Mw l i).2 (· < w.heap.size) (.slice ax dl dc) ?_).mono ?_
      · obtain ⟨ao2, cap2, e2, hc2, hr2⟩ := HBS.out
        refine ⟨ao2, cap2, e2, hc2, fun h0 => ?_⟩
        obtain ⟨i2, off2, e3, hS, hi2, hc3⟩ := hr2 h0
        exact ⟨i2, off2, e3, hS, Nat.lt_of_lt_of_le hi2 M2.out.bel.size, fun j hj => (M2.out.bel.cell (p := ⟨i2, off2 + j, none⟩) hi2).trans (hc3 j hj)⟩
      rintro e w5 ⟨b2, rfl, kv5, b5⟩
      rw [← EI.out.1] at kv5 ⊢
      have EA := EI.out.2
      have m5 := Hm.below M2.out b5
      have r5 := K2.out.ow.kept (gb_of_below b5 none) (by rcases u5.ownBlock with _ | q <;> simp)
      have y0 : w5.cell? ⟨w.heap.size + 1, 0, none⟩ = some (.map (some b)) := (m5.ok ⟨w.heap.size + 1, 2, kv b (mi l i).length⟩ (by simp)).c 0 (show 0 < 2 by decide)
      have y1 : w5.cell? ⟨w.heap.size + 1, 1, none⟩ = some (.int .u64 ((mi l i).length : Int)) := (m5.ok ⟨w.heap.size + 1, 2, kv b (mi l i).length⟩ (by simp)).c 1 (show 1 < 2 by decide)
      have x0 : ∀ o, w5.frozen? ⟨w.heap.size + 1, o, none⟩ = false := (m5.ok ⟨w.heap.size + 1, 2, kv b (mi l i).length⟩ (by simp)).f
      have x8 : ∀ o, w5.frozen? ⟨g7 + 1, o, none⟩ = false := (m5.ok ⟨g7 + 1, 6, s6 0 0 0⟩ (by simp)).f
      have z0 : w5.cell? ⟨g7 + 1, 0, none⟩ = some (.int .i64 0) := (m5.ok ⟨g7 + 1, 6, s6 0 0 0⟩ (by simp)).c 0 (show 0 < 6 by decide)
      have z1 : w5.cell? ⟨g7 + 1, 1, none⟩ = some (.int .u64 (dg 0 0)) := (m5.ok ⟨g7 + 1, 6, s6 0 0 0⟩ (by simp)).c 1 (show 1 < 6 by decide)
      have z2 : w5.cell? ⟨g7 + 1, 2, none⟩ = some (.int .u64 (dg 0 1)) := (m5.ok ⟨g7 + 1, 6, s6 0 0 0⟩ (by simp)).c 2 (show 2 < 6 by decide)
      have z3 : w5.cell? ⟨g7 + 1, 3, none⟩ = some (.int .u64 (dg 0 2)) := (m5.ok ⟨g7 + 1, 6, s6 0 0 0⟩ (by simp)).c 3 (show 3 < 6 by decide)
      have z4 : w5.cell? ⟨g7 + 1, 4, none⟩ = some (.int .u64 (dg 0 3)) := (m5.ok ⟨g7 + 1, 6, s6 0 0 0⟩ (by simp)).c 4 (show 4 < 6 by decide)
      have z5 : w5.cell? ⟨g7 + 1, 5, none⟩ = some (.int .u64 0) := (m5.ok ⟨g7 + 1, 6, s6 0 0 0⟩ (by simp)).c 5 (show 5 < 6 by decide)
      have NB : Hid (b2 ≠ w.heap.size + 1 ∧ b2 ≠ g7 + 1) := by
        obtain ⟨_, D, hD, _⟩ := kv5
        exact ⟨map_ne hD y0, map_ne hD z0⟩
      have KV5 : Hid _ := kv5
      have ne1 : ¬ g7 = w.heap.size := by have := G7.out; omega
      have ne2 : ¬ w.heap.size = g7 := by have := G7.out; omega
      have ne3 : ¬ g7 + 1 = w.heap.size + 1 := by omega
      have ne4 : ¬ w.heap.size + 1 = g7 + 1 := by omega
      have R5 : Hid _ := r5
      have M5 : Hid _ := m5
      clear kv5 r5 m5 p0 p1 C7 K2 M2 b5
      generalize (dn (mi l i) o).1 = A at EA ⊢
      obtain ⟨A1, A2, A3⟩ := A
      have EA : Hid _ := EA
      obtain ⟨m6, EM⟩ : ∃ m6, Hid (mi l (i + 1) = m6) := ⟨_, rfl⟩
      rw [EM.out] at KV5 ⊢
      unfold av
      go_upto_region 8 with fail
      clear y0 y1 x0 x8 z0 z1 z2 z3 z4 z5 ne1 ne2 ne3 ne4
      have q2 := Hm.set (i := 1) (v := .int .u64 (m6.length : Int)) (Hm.set (i := 0) (v := .map (some b2)) (Hm.sub (M := [⟨w.heap.size + 1, 2, kv b (mi l i).length⟩, ⟨g7 + 1, 6, s6 0 0 0⟩]) M5.out (by simp)) (by decide) (by have := G7.out; simp; omega)) (by decide) (by have := G7.out; simp; omega)
      have hg8 : ∀ q, q ∈ ([⟨w.heap.size + 1, 2, Hm.updv (Hm.updv (kv b (mi l i).length) 0 (.map (some b2))) 1 (.int .u64 (m6.length : Int))⟩] : List Hm.Bk) → g7 + 1 ≠ q.g := by have := G7.out; simp; omega
      have t1 := Hm.set (i := 0) (v := .int .i64 A1) (Mm.sw q2) (by decide) hg8
      have t2 := Hm.set (i := 1) (v := .int .u64 (dg A2 0)) t1 (by decide) hg8
      have t3 := Hm.set (i := 2) (v := .int .u64 (dg A2 1)) t2 (by decide) hg8
      have t4 := Hm.set (i := 3) (v := .int .u64 (dg A2 2)) t3 (by decide) hg8
      have t5 := Hm.set (i := 4) (v := .int .u64 (dg A2 3)) t4 (by decide) hg8
      have t6 := Hm.set (i := 5) (v := .int .u64 A3) t5 (by decide) hg8
      have M6 : Hid (Hm.Hd w [⟨g7 + 1, 6, s6 A1 A2 A3⟩, ⟨w.heap.size + 1, 2, kv b2 m6.length⟩] ((((((((w5.setCell ⟨w.heap.size + 1, 0, none⟩ (.map (some b2))).setCell ⟨w.heap.size + 1, 1, none⟩ (.int .u64 (m6.length : Int))).setCell ⟨g7 + 1, 0, none⟩ (.int .i64 A1)).setCell ⟨g7 + 1, 1, none⟩ (.int .u64 (dg A2 0))).setCell ⟨g7 + 1, 2, none⟩ (.int .u64 (dg A2 1))).setCell ⟨g7 + 1, 3, none⟩ (.int .u64 (dg A2 2))).setCell ⟨g7 + 1, 4, none⟩ (.int .u64 (dg A2 3))).setCell ⟨g7 + 1, 5, none⟩ (.int .u64 A3))) := by
        have e1 := Hm.ext (G := s6 A1 A2 A3) t6 (fun o ho => by
          match o, ho with
          | 0, _ => rfl
          | 1, _ => rfl
          | 2, _ => rfl
          | 3, _ => rfl
          | 4, _ => rfl
          | 5, _ => rfl
          | (n + 6), h => exact absurd h (by show ¬ n + 6 < 6; omega))
        exact Mm.sw (Hm.ext (Mm.sw e1) (fun o ho => by
          match o, ho with
          | 0, _ => rfl
          | 1, _ => rfl
          | (n + 2), h => exact absurd h (by show ¬ n + 2 < 2; omega)))
      have nr : u5.ownBlock ≠ some (w.heap.size + 1) ∧ u5.ownBlock ≠ some (g7 + 1) := ⟨fun e => by have := (RB.out _ e).1; omega, fun e => by have := (RB.out _ e).2; omega⟩
      have K6 : Hid (KVn b2 (4096 * i + 4096) m6 ((((((((w5.setCell ⟨w.heap.size + 1, 0, none⟩ (.map (some b2))).setCell ⟨w.heap.size + 1, 1, none⟩ (.int .u64 (m6.length : Int))).setCell ⟨g7 + 1, 0, none⟩ (.int .i64 A1)).setCell ⟨g7 + 1, 1, none⟩ (.int .u64 (dg A2 0))).setCell ⟨g7 + 1, 2, none⟩ (.int .u64 (dg A2 1))).setCell ⟨g7 + 1, 3, none⟩ (.int .u64 (dg A2 2))).setCell ⟨g7 + 1, 4, none⟩ (.int .u64 (dg A2 3))).setCell ⟨g7 + 1, 5, none⟩ (.int .u64 A3))) := (((((((((show KVn b2 (4096 * i + 4096) m6 w5 from KV5.out).set (i := 0) NB.out.1 (.map (some b2))).set (i := 1) NB.out.1 (.int .u64 (m6.length : Int))).set (i := 0) NB.out.2 (.int .i64 A1)).set (i := 1) NB.out.2 (.int .u64 (dg A2 0))).set (i := 2) NB.out.2 (.int .u64 (dg A2 1))).set (i := 3) NB.out.2 (.int .u64 (dg A2 2))).set (i := 4) NB.out.2 (.int .u64 (dg A2 3))).set (i := 5) NB.out.2 (.int .u64 A3))
      have R6 : Hid (((((((((w5.setCell ⟨w.heap.size + 1, 0, none⟩ (.map (some b2))).setCell ⟨w.heap.size + 1, 1, none⟩ (.int .u64 (m6.length : Int))).setCell ⟨g7 + 1, 0, none⟩ (.int .i64 A1)).setCell ⟨g7 + 1, 1, none⟩ (.int .u64 (dg A2 0))).setCell ⟨g7 + 1, 2, none⟩ (.int .u64 (dg A2 1))).setCell ⟨g7 + 1, 3, none⟩ (.int .u64 (dg A2 2))).setCell ⟨g7 + 1, 4, none⟩ (.int .u64 (dg A2 3))).setCell ⟨g7 + 1, 5, none⟩ (.int .u64 A3)).ownsRow (w.heap.size + 2) 34 6 u5 i (ansl l i)) := (row_set (row_set (row_set (row_set (row_set (row_set (row_set (row_set R5.out (i := 0) nr.1 (.map (some b2))) (i := 1) nr.1 (.int .u64 (m6.length : Int))) (i := 0) nr.2 (.int .i64 A1)) (i := 1) nr.2 (.int .u64 (dg A2 0))) (i := 2) nr.2 (.int .u64 (dg A2 1))) (i := 3) nr.2 (.int .u64 (dg A2 2))) (i := 4) nr.2 (.int .u64 (dg A2 3))) (i := 5) nr.2 (.int .u64 A3))
      clear q2 hg8 t1 t2 t3 t4 t5 t6 nr M5 R5 KV5
      generalize ((((((((w5.setCell ⟨w.heap.size + 1, 0, none⟩ (.map (some b2))).setCell ⟨w.heap.size + 1, 1, none⟩ (.int .u64 (m6.length : Int))).setCell ⟨g7 + 1, 0, none⟩ (.int .i64 A1)).setCell ⟨g7 + 1, 1, none⟩ (.int .u64 (dg A2 0))).setCell ⟨g7 + 1, 2, none⟩ (.int .u64 (dg A2 1))).setCell ⟨g7 + 1, 3, none⟩ (.int .u64 (dg A2 2))).setCell ⟨g7 + 1, 4, none⟩ (.int .u64 (dg A2 3))).setCell ⟨g7 + 1, 5, none⟩ (.int .u64 A3)) = W6 at M6 K6 R6 ⊢
      generalize (Value.agg #[.map (some b), .int .u64 ((mi l i).length : Int)]) = V3
      generalize (od o.k o.a o.f o.l o.w (.slice ax dl dc)) = V4
      generalize (Value.agg #[.map (some b2), .int .u64 (m6.length : Int)]) = V5
      have a0 : W6.cell? ⟨g7 + 1, 0, none⟩ = some (.int .i64 A1) := (M6.out.ok ⟨g7 + 1, 6, s6 A1 A2 A3⟩ (by simp)).c 0 (show 0 < 6 by decide)
      have a1 : W6.cell? ⟨g7 + 1, 1, none⟩ = some (.int .u64 (dg A2 0)) := (M6.out.ok ⟨g7 + 1, 6, s6 A1 A2 A3⟩ (by simp)).c 1 (show 1 < 6 by decide)
      have a2 : W6.cell? ⟨g7 + 1, 2, none⟩ = some (.int .u64 (dg A2 1)) := (M6.out.ok ⟨g7 + 1, 6, s6 A1 A2 A3⟩ (by simp)).c 2 (show 2 < 6 by decide)
      have a3 : W6.cell? ⟨g7 + 1, 3, none⟩ = some (.int .u64 (dg A2 2)) := (M6.out.ok ⟨g7 + 1, 6, s6 A1 A2 A3⟩ (by simp)).c 3 (show 3 < 6 by decide)
      have a4 : W6.cell? ⟨g7 + 1, 4, none⟩ = some (.int .u64 (dg A2 3)) := (M6.out.ok ⟨g7 + 1, 6, s6 A1 A2 A3⟩ (by simp)).c 4 (show 4 < 6 by decide)
      have a5 : W6.cell? ⟨g7 + 1, 5, none⟩ = some (.int .u64 A3) := (M6.out.ok ⟨g7 + 1, 6, s6 A1 A2 A3⟩ (by simp)).c 5 (show 5 < 6 by decide)
      have hsz : w.heap.size + 2 ≤ W6.heap.size := by have h1 : g7 + 1 < W6.heap.size := (M6.out.ok ⟨g7 + 1, 6, s6 A1 A2 A3⟩ (by simp)).hi; have := G7.out; omega
      obtain ⟨v', w9, hap, ow9, gr9⟩ := appA (A1, A2, A3) R6.out hsz (by have := hz.out; omega)
      go_upto_region 9 with (at_builtin; refine wpl_ap rfl rfl rfl rfl hap ?_)
      have hw := Mm.stw i n hlt (by have := hz.out; omega)
      have P9 : Hid (KS w l (i + 1) b2 v' w9) := by
        have b6 : Below W6.heap.size W6 (W6.alloc (.cells (a6 (A1, A2, A3)).toArray 34)) := (Below.refl _ _).alloc (Nat.le_refl _) _
        have m7 := Hm.below (Hm.sub (M := [⟨w.heap.size + 1, 2, kv b2 m6.length⟩]) M6.out (by simp)) b6
        have k7 := K6.out.kept (gb_of_below b6 none) (by simp)
        obtain ⟨_, D, hD, _⟩ := k7
        have hne := map_row hD (R6.out.alloc _)
        have k7 := K6.out.kept (gb_of_below b6 none) (by simp)
        have hm7 : Hm.Hd w [⟨w.heap.size + 1, 2, kv b2 m6.length⟩] w9 := by
          rcases hv : u5.ownBlock with _ | q
          · rw [hv] at gr9
            exact Hd_gn m7 gr9
          · rw [hv] at gr9
            have := (RB.out q hv).1
            exact Hd_gb m7 gr9 (by omega) (fun z hz => by
              obtain rfl := List.mem_singleton.1 hz
              show w.heap.size + 1 ≠ q
              omega)
        refine ⟨by rw [EM.out]; exact hm7, ?_, by rw [EA.out]; exact ow9⟩
        have k9 := k7.kept gr9 hne
        rw [EM.out]
        rw [Nat.mul_succ]
        exact k9
      clear hap ow9 gr9 M6 K6 R6 a0 a1 a2 a3 a4 a5
      go_wp2_with fail
      go_roundw
      case rel => exact ⟨i + 1, b2, hlt, Mm.stv i _ (by first | rfl | exact hw.out), P9.out⟩
      case measure => exact Mm.stm i n hlt _ (by first | rfl | exact hw.out)
    · have ek : n = i := by omega
      subst ek
      have d0 : decide ((n : Int) < (n : Int)) = false := decide_eq_false (by omega)
      have d1 : ¬ (n : Int) < (n : Int) := Int.lt_irrefl _
      have M4 := (mi_Mw l n).2
      have kM : KM (w.heap.size + 1) b (mi l n) wr := by
        have h0 := hp.hd.ok ⟨w.heap.size + 1, 2, kv b (mi l n).length⟩ (by simp)
        obtain ⟨hb, D, hD, hq⟩ := hp.kv
        exact ⟨h0.hi, hb, map_ne hD (h0.c 0 (show 0 < 2 by decide)), h0.c 0 (show 0 < 2 by decide), h0.c 1 (show 1 < 2 by decide), D, 4096 * n, hD, by have := hz.out; omega, hq⟩
      have HP : Hid _ := hp
      obtain ⟨m, Em⟩ : ∃ m, Hid (mi l n = m) := ⟨_, rfl⟩
      rw [Em.out] at kM M4
      have HK : Hid _ := kM
      have c1 := kM.c1
      clear hp kM hi hlt
      go_wp2_with fail
      refine (kread_any (w.heap.size + 1) b m 0 m.length wr HK.out (by omega)).mono ?_
      rintro e w2 ⟨v, rfl, ow, b2⟩
      have B2 := HP.out.hd.bel.trans (b2.mono HP.out.hd.bel.size)
      have R2 := HP.out.ow.kept (gb_of_below b2 none) (by rcases u5.ownBlock with _ | q <;> simp)
      have S2 : Tr.Bs (w.heap.size ≤ ·) m v w2 := by
        rw [rdl_all] at ow
        exact Mm.own_bs ow HP.out.hd.bel.size
      go_wp2_with fail
      go_ret2
      exact ⟨_, _, rfl, R2, by rw [Em.out]; exact S2, B2⟩
end Kp
end Go.Proofs.Ytpgjgehkomoobaa
/- Bytes that came in. -/
namespace Go.Proofs.Ytpgjgehkomoobaa
namespace Sp
open Go.ChangeShapes Go.WideShapes Go.ChangeAt Go.RowKit Go.Joins
theorem ownK : ownKnob Try.prog.godebug = none := by kernel_rfl
theorem laidOutK : laidOutB Try.prog = true := by kernel_rfl
theorem cellsU8 : Try.prog.cellsOf 5 = 1 := by kernel_rfl
theorem bytesU8 : Try.prog.bytesOf 5 = 1 := by kernel_rfl
/-- Numbers as bytes. -/
def ub (zs : List Int) : List UInt8 := zs.map fun z => UInt8.ofNat z.toNat
theorem ub_length (zs : List Int) : (ub zs).length = zs.length := by simp [ub]
theorem ub_bz (zs : List Int) (hz : ∀ z ∈ zs, 0 ≤ z ∧ z < 256) (j : Nat) (h : j < zs.length) : bz (ub zs) j = zs.getD j 0 := by
  have hm := hz zs[j] (List.getElem_mem h)
  have h2 : j < (ub zs).length := by rw [ub_length]; exact h
  unfold bz
  rw [List.getD_eq_getElem?_getD, List.getD_eq_getElem?_getD, List.getElem?_eq_getElem h2, List.getElem?_eq_getElem h]
  simp only [Option.getD_some, ub, List.getElem_map, UInt8.toNat_ofNat']
  omega
set_option maxRecDepth 100000 in
theorem open_bytes {H : Type} {enc : TypeId × Value → H} {W : World} {r : Reach} {b0 : Nat} {v : Value} {d : DataW H} {p : List MemPlace}
    (hv : Value.okWide Try.prog W r b0 24 v) (h : DataW.Trod enc Try.prog W 0 (fun _ => true) true 24 v d p) :
    ∃ (l : List UInt8) (ao : Option Addr) (cap : Nat), v = .slice ao l.length cap ∧ l.length ≤ cap ∧ Vw l ao W ∧ (l = [] ∨ ∃ elems spare, d = .slice elems spare ∧ elems.length = l.length) := by
  obtain ⟨a0, len, cap, rfl⟩ := okWide_slice Try.underlying24 hv
  obtain ⟨fuel, hf⟩ := h
  rcases open_ints Try.underlying24 Try.underlying5 cellsU8 hf with ⟨hcs, hx⟩ | ⟨a, len', cap', zs, hcs, _, hl, hm, hz, hx, hcell, hwz⟩
  · simp [Value.cells] at hcs
    obtain ⟨rfl, rfl, rfl⟩ := hcs
    exact ⟨[], none, 0, rfl, Nat.le_refl _, Vw_nil _ _, .inl rfl⟩
  · simp [Value.cells] at hcs
    obtain ⟨rfl, rfl, rfl⟩ := hcs
    simp only [if_true] at hz
    have hb : ∀ z ∈ zs, 0 ≤ z ∧ z < 256 := fun z hz' => by have := bounds_u8 (hwz z hz'); omega
    have hb' : ∀ z ∈ zs.take len, 0 ≤ z ∧ z < 256 := fun z hz' => hb z (List.mem_of_mem_take hz')
    have hlt : (ub (zs.take len)).length = len := by rw [ub_length, List.length_take]; omega
    simp only [Prod.mk.injEq] at hx
    refine ⟨ub (zs.take len), some a, cap, by rw [hlt], by rw [hlt]; exact hl, ?_, .inr ⟨_, _, hx.1, by simp [lits, hlt]; omega⟩⟩
    intro h0
    rw [hlt] at h0
    obtain ⟨b, off, rfl, hc⟩ := ints_at hcell (by omega)
    refine ⟨b, off, rfl, ?_, fun j hj => ?_⟩
    · exact World.block_lt_of_cell? W ⟨b, off + 0, none⟩ (hc 0 (by omega))
    · rw [hlt] at hj
      rw [hc j (by omega), ub_bz _ hb' j (by rw [List.length_take]; omega)]
      simp [List.getD_eq_getElem?_getD, hj]
end Sp
end Go.Proofs.Ytpgjgehkomoobaa
/- A slice of bytes that came in: its room too. -/
namespace Go.Proofs.Ytpgjgehkomoobaa
namespace Sp
open Go.ChangeShapes Go.WideShapes Go.ChangeAt Go.RowKit
set_option maxRecDepth 100000 in
theorem open_bytes2 {H : Type} {enc : TypeId × Value → H} {W : World} {r : Reach} {b0 : Nat} {v : Value} {d : DataW H} {p : List MemPlace}
    (hv : Value.okWide Try.prog W r b0 24 v) (h : DataW.Trod enc Try.prog W 0 (fun _ => true) true 24 v d p) :
    ∃ (l : List UInt8) (ao : Option Addr) (cap : Nat), v = .slice ao l.length cap ∧ l.length ≤ cap ∧ (cap : Int) ≤ 9223372036854775807 ∧ Vw l ao W ∧ (l = [] ∨ ∃ elems spare, d = .slice elems spare ∧ elems.length = l.length) := by
  obtain ⟨l, ao, cap, rfl, h1, h2, h3⟩ := open_bytes hv h
  refine ⟨l, ao, cap, rfl, h1, ?_, h2, h3⟩
  obtain ⟨fuel, hf⟩ := h
  rcases open_ints Try.underlying24 Try.underlying5 cellsU8 hf with ⟨hcs, _⟩ | ⟨a, len', cap', zs, hcs, _, _, hm, _⟩
  · simp [Value.cells] at hcs
    omega
  · simp [Value.cells] at hcs
    obtain ⟨_, _, rfl⟩ := hcs
    unfold maxLen at hm
    omega
end Sp
end Go.Proofs.Ytpgjgehkomoobaa
/- lampbearerref.SameNode. -/
namespace Go.Proofs.Ytpgjgehkomoobaa
namespace Tr
open Nb Go.RowKit
mutual
/-- Are they the same? -/
def sn : Nd → Nd → Bool
  | .mk k p v ks, .mk k2 p2 v2 ks2 => decide (k = k2) && (if k = 1 then decide (p = p2) && decide (v = v2) else if k = 2 then decide (p = p2) && sns ks ks2 else if k = 3 then decide (v = v2) && sns ks ks2 else true)
def sns : List Nd → List Nd → Bool
  | [], [] => true
  | a :: r, b :: s => sn a b && sns r s
  | [], _ :: _ => false
  | _ :: _, [] => false
end
mutual
theorem sn_bn : ∀ a b : Nd, sn a b = true ↔ bn a = bn b
  | .mk k p v ks, .mk k2 p2 v2 ks2 => by
    unfold sn
    rw [Bool.and_eq_true, decide_eq_true_eq]
    constructor
    · rintro ⟨rfl, h⟩
      unfold bn
      split at h
      · rename_i h1
        rw [Bool.and_eq_true, decide_eq_true_eq, decide_eq_true_eq] at h
        rw [if_pos h1, if_pos h1, h.1, h.2]
      split at h
      · rename_i h1 h2
        rw [Bool.and_eq_true, decide_eq_true_eq, sns_bns ks ks2] at h
        rw [if_neg h1, if_neg h1, if_pos h2, if_pos h2, h.1, h.2]
      split at h
      · rename_i h1 h2 h3
        rw [Bool.and_eq_true, decide_eq_true_eq, sns_bns ks ks2] at h
        rw [if_neg h1, if_neg h1, if_neg h2, if_neg h2, if_pos h3, if_pos h3, h.1, h.2]
      · rename_i h1 h2 h3
        rw [if_neg h1, if_neg h1, if_neg h2, if_neg h2, if_neg h3, if_neg h3]
    · intro h
      have hk : k = k2 := by
        have := congrArg Nd.kind h
        rwa [bn_kind, bn_kind] at this
      subst hk
      refine ⟨rfl, ?_⟩
      unfold bn at h
      split
      · rename_i h1
        rw [if_pos h1, if_pos h1] at h
        injection h with _ e1 e2 _
        rw [Bool.and_eq_true, decide_eq_true_eq, decide_eq_true_eq]
        exact ⟨e1, e2⟩
      split
      · rename_i h1 h2
        rw [if_neg h1, if_neg h1, if_pos h2, if_pos h2] at h
        injection h with _ e1 _ e2
        rw [Bool.and_eq_true, decide_eq_true_eq, sns_bns ks ks2]
        exact ⟨e1, e2⟩
      split
      · rename_i h1 h2 h3
        rw [if_neg h1, if_neg h1, if_neg h2, if_neg h2, if_pos h3, if_pos h3] at h
        injection h with _ _ e1 e2
        rw [Bool.and_eq_true, decide_eq_true_eq, sns_bns ks ks2]
        exact ⟨e1, e2⟩
      · rfl
theorem sns_bns : ∀ a b : List Nd, sns a b = true ↔ bns a = bns b
  | [], [] => by simp [sns, bns]
  | [], _ :: _ => by simp [sns, bns]
  | _ :: _, [] => by simp [sns, bns]
  | k :: a, j :: b => by
    unfold sns bns
    rw [Bool.and_eq_true, sn_bn k j, sns_bns a b, List.cons.injEq]
end
theorem sns_len : ∀ a b : List Nd, a.length ≠ b.length → sns a b = false
  | [], [], h => absurd rfl h
  | [], _ :: _, _ => by simp [sns]
  | _ :: _, [], _ => by simp [sns]
  | k :: a, j :: b, h => by
    unfold sns
    rw [sns_len a b (by simpa using h), Bool.and_false]
theorem sns_all : ∀ a b : List Nd, a.length = b.length → (∀ j, j < a.length → sn (a.getD j Nd.no) (b.getD j Nd.no) = true) → sns a b = true
  | [], [], _, _ => by simp [sns]
  | [], _ :: _, h, _ => by simp at h
  | _ :: _, [], h, _ => by simp at h
  | k :: a, j :: b, h, hi => by
    have h0 := hi 0 (by simp)
    have h1 := sns_all a b (by simpa using h) (fun i hj => by have := hi (i + 1) (by simpa using hj); simpa only [List.getD_cons_succ] using this)
    unfold sns
    rw [h1, Bool.and_true]
    simpa only [List.getD_cons_zero] using h0
theorem sns_one : ∀ (a b : List Nd) (i : Nat), a.length = b.length → i < a.length → sn (a.getD i Nd.no) (b.getD i Nd.no) = false → sns a b = false
  | [], [], i, _, hi, _ => by simp at hi
  | [], _ :: _, _, h, _, _ => by simp at h
  | _ :: _, [], h, _, _, _ => by simp_all
  | k :: a, j :: b, 0, _, _, hs => by
    unfold sns
    rw [show sn k j = false from hs, Bool.false_and]
  | k :: a, j :: b, i + 1, h, hi, hs => by
    unfold sns
    rw [sns_one a b i (by simpa using h) (by simpa using hi) (by simpa only [List.getD_cons_succ] using hs), Bool.and_false]
end Tr
end Go.Proofs.Ytpgjgehkomoobaa
/- lampbearerref.SameNode. -/
namespace Go.Proofs.Ytpgjgehkomoobaa
namespace Tr
open Nb Go.RowKit
/-- How many kids a node may have. -/
inductive Sm : Nd → Prop where
  | mk (k : Int) (p v : By) (ks : List Nd) (hk : ks.length ≤ 4194304) (h : ∀ j, j < ks.length → Sm (ks.getD j Nd.no)) : Sm (.mk k p v ks)
end Tr
end Go.Proofs.Ytpgjgehkomoobaa
/- lampbearerref.routes: the ways without kids. -/
namespace Go.Proofs.Ytpgjgehkomoobaa
namespace Tr
open Nb Go.RowKit
theorem pt_bz {p : By} (h : Pt p) (j : Nat) (hj : j < p.length) : Sp.bz p j < 16 := by
  have := h (p.getD j 0) (by rw [List.getD_eq_getElem?_getD, List.getElem?_eq_getElem hj]; exact List.getElem_mem hj)
  show (((p.getD j 0).toNat : Nat) : Int) < 16
  omega
theorem not_pt {p : By} (h : ¬ Pt p) : ∃ i, i < p.length ∧ (16 : Int) ≤ Sp.bz p i ∧ ∀ j, j < i → Sp.bz p j < 16 := by
  induction p with
  | nil => exact absurd pt_nil h
  | cons c p ih =>
    by_cases hc : c.toNat < 16
    · obtain ⟨i, h1, h2, h3⟩ := ih (fun hp => h (pt_cons.2 ⟨hc, hp⟩))
      refine ⟨i + 1, by simpa using h1, h2, fun j hj => ?_⟩
      cases j with
      | zero => show ((c.toNat : Nat) : Int) < 16; omega
      | succ j => exact h3 j (by omega)
    · exact ⟨0, by simp, by show (16 : Int) ≤ ((c.toNat : Nat) : Int); omega, fun j hj => absurd hj (by omega)⟩
end Tr
end Go.Proofs.Ytpgjgehkomoobaa
/- lampbearerref.routes: a road. -/
namespace Go.Proofs.Ytpgjgehkomoobaa
namespace Tr
open Nb Go.RowKit
inductive RDI (W0 : World) (G : Value → World → Prop) (ok : Bool) (a1 a2 : Option Addr) (n1 c1 n2 c2 c3 gk off g0 j : Nat) (q : Int) (b1 b2 b3 : Option Addr) (m1 d1 m2 d2 m3 d3 : Nat) (X Y Z : ByteArray) (v7 v18 v19 v20 v21 v22 v23 v24 v25 v26 v27 v28 v29 v30 v31 v32 : Value) (d : Nat → Bool) (x : Act) (wx : World) : Prop where
  | mk (u4 u5 u61 u62 u63 u64 u65 u66 u67 u68 u69 u70 u71 u72 : Value) (hx : x = { tmps := #[.agg #[.int .i64 2, .slice a1 n1 c1, .slice a2 n2 c2, .slice (some ⟨gk, off, none⟩) 1 c3], .string X, .pointer (some ⟨g0, 0, none⟩), undef, u4, u5, undef, v7, undef, undef, undef, undef, undef, .pointer (some ⟨g0, 1, none⟩), .slice a1 n1 c1, .int .i64 (n1 : Int), .int .i64 (j : Int), .bool false, v18, v19, v20, v21, v22, v23, v24, v25, v26, v27, v28, v29, v30, v31, v32, .bool false, .pointer (some ⟨g0, 0, none⟩), .int .i64 2, .bool false, .bool false, .pointer (some ⟨g0, 0, none⟩), .int .i64 2, .bool false, undef, undef, undef, undef, undef, undef, undef, undef, undef, undef, .bool true, .pointer (some ⟨g0, 0, none⟩), .int .i64 2, .bool true, .bool true, .pointer (some ⟨g0, 3, none⟩), .slice (some ⟨gk, off, none⟩) 1 c3, .int .i64 1, .bool true, .bool true, u61, u62, u63, u64, u65, u66, u67, u68, u69, u70, u71, u72, undef, undef, undef, undef, undef, undef, undef, undef, undef, undef, undef, undef, undef, undef, undef, undef, undef, undef, undef, undef, undef, undef, undef, undef, undef, undef, undef, undef, undef, undef, undef, undef, undef, undef, undef, undef, undef, undef, undef, undef, undef, undef, undef, undef, undef, undef, undef, undef], defers := [] }) (hw : Below W0.heap.size W0 wx) (p0 : d 0 = true → u61 = .pointer (some ⟨g0, 3, none⟩)) (p1 : d 1 = true → u62 = .slice (some ⟨gk, off, none⟩) 1 c3) (p2 : d 2 = true → u63 = .pointer (some ⟨gk, off, none⟩)) (p3 : d 3 = true → u64 = .agg #[.int .i64 q, .slice b1 m1 d1, .slice b2 m2 d2, .slice b3 m3 d3]) (p4 : d 4 = true → u65 = .string X) (p5 : d 5 = true → u66 = .pointer (some ⟨g0, 1, none⟩)) (p6 : d 6 = true → u67 = .slice a1 n1 c1) (p7 : d 7 = true → u68 = .string Y) (p8 : d 8 = true → u69 = .string Z) (p11 : d 11 = true → u72 = .bool ok) (p13 : d 13 = true → u5 = .bool ok) (z9 : d 9 = true → ∃ x, u70 = .tuple #[x, .bool ok] ∧ G x wx) (z10 : d 10 = true → G u71 wx) (z12 : d 12 = true → G u4 wx) : RDI W0 G ok a1 a2 n1 c1 n2 c2 c3 gk off g0 j q b1 b2 b3 m1 d1 m2 d2 m3 d3 X Y Z v7 v18 v19 v20 v21 v22 v23 v24 v25 v26 v27 v28 v29 v30 v31 v32 d x wx
end Tr
end Go.Proofs.Ytpgjgehkomoobaa
/- lampbearerref.routes: a fork. -/
namespace Go.Proofs.Ytpgjgehkomoobaa
namespace Tr
open Nb Go.RowKit
theorem wpList_apw {P : Program} {ops : Array Oper} {rest : List Oper} {o : Oper} {a : Act} {Q : Exit → Act → World → Prop} {s x : Operand} {t u : TypeId} {v v2 v' : Value} {w w' : World} (hgd : o.guard = none) (ho : o.op = .call { callee := .builtin .append, args := #[s, x], argTypes := #[t, u] }) (hs : a.eval s = v) (hx : a.eval x = v2)
    (hr : (Builtin.append_ #[t, u] o.type #[v, v2]).run P w = .ok v' w') (h : wpList P ops Q rest (a.put o.dst v') w') : wpList P ops Q (o :: rest) a w := by
  refine wpList_plain hgd fun _ hK => ?_
  unfold Oper.wp execOp
  simp only [ho, resolve, invoke, builtin, Sem.run_bind, Sem.run_pure, Result.andThen_ok, List.map_toArray, List.map_cons, List.map_nil, hs, hx, hr]
  exact hK _ _ h
theorem pre_pre (p q : By) (l : Rt) : pre p (pre q l) = pre (p ++ q) l := by
  unfold pre
  rw [List.map_map]
  apply List.map_congr_left
  intro r _
  show (p ++ (q ++ r.1), r.2) = (p ++ q ++ r.1, r.2)
  rw [List.append_assoc]
theorem pre_app (p : By) (a b : Rt) : pre p (a ++ b) = pre p a ++ pre p b := by simp [pre]
theorem pre_len' (p : By) (a : Rt) : (pre p a).length = a.length := by simp [pre]
theorem rtk_snoc (t : Nd) : ∀ (ks : List Nd) (i : Nat), rtk i (ks ++ [t]) = match rtk i ks, rt t with
    | some L, some a => some (L ++ pre [UInt8.ofNat (i + ks.length)] a)
    | _, _ => none
  | [], i => by
    show rtk i [t] = _
    unfold rtk
    cases h : rt t with
    | none => simp
    | some a => simp [rtk]
  | k :: ks, i => by
    rw [List.cons_append]
    unfold rtk
    rw [rtk_snoc t ks (i + 1)]
    cases rt k with
    | none => rfl
    | some a =>
      cases rtk (i + 1) ks with
      | none => rfl
      | some L =>
        cases rt t with
        | none => rfl
        | some b =>
          show some (pre [UInt8.ofNat i] a ++ (L ++ pre [UInt8.ofNat (i + 1 + ks.length)] b)) = some ((pre [UInt8.ofNat i] a ++ L) ++ pre [UInt8.ofNat (i + (k :: ks).length)] b)
          rw [List.append_assoc, List.length_cons, show i + 1 + ks.length = i + (ks.length + 1) by omega]
theorem rtk_bad : ∀ (ks : List Nd) (i k : Nat), k < ks.length → rt (ks.getD k Nd.no) = none → rtk i ks = none
  | [], _, k, h, _ => absurd h (by simp)
  | t :: r, i, 0, _, h => by
    rw [List.getD_cons_zero] at h
    unfold rtk
    rw [h]
  | t :: r, i, k + 1, hk, h => by
    rw [List.getD_cons_succ] at h
    have := rtk_bad r (i + 1) k (by simpa using hk) h
    unfold rtk
    rw [this]
    cases rt t <;> rfl
theorem rtk_take (ks : List Nd) (k : Nat) (hk : k < ks.length) (L a : Rt) (hL : rtk 0 (ks.take k) = some L) (ha : rt (ks.getD k Nd.no) = some a) : rtk 0 (ks.take (k + 1)) = some (L ++ pre [UInt8.ofNat k] a) := by
  have e : ks.take (k + 1) = ks.take k ++ [ks.getD k Nd.no] := by
    rw [List.take_add_one, List.getD_eq_getElem?_getD, List.getElem?_eq_getElem hk]
    rfl
  rw [e, rtk_snoc, hL, ha, List.length_take, show 0 + min k ks.length = k by omega]
theorem rt_three (p v : By) (ks : List Nd) (hl : ks.length = 16) : rt (.mk 3 p v ks) = (rtk 0 ks).map fun l => (if v = [] then [] else [([], v)]) ++ l := by
  rw [rt, if_neg (fun h => by rcases h.1 with h | h <;> exact absurd h (by decide)), if_neg (by decide), if_neg (by decide), if_neg (fun h => absurd h.1 (by decide)), if_pos ⟨rfl, hl⟩]
theorem lit_b (k : Nat) (h : k < 16) (w : World) : Pk.Sl [UInt8.ofNat k] (.slice (some ⟨w.heap.size, 0, none⟩) 1 1) (w.alloc (.cells #[.int .u8 (k : Int)] 5)) := by
  have HA := heap_alloc_new w (.cells #[.int .u8 (k : Int)] 5)
  refine ⟨_, _, rfl, Nat.le_refl _, fun _ => ⟨_, _, rfl, by simp, fun j hj => ?_⟩⟩
  have e : j = 0 := by simpa using hj
  subst e
  have e2 : Sp.bz [UInt8.ofNat k] 0 = (k : Int) := by
    show (((UInt8.ofNat k).toNat : Nat) : Int) = _
    rw [u8_toNat k h]
  rw [e2]
  simp only [World.cell?, HA]
  rfl
/-- What routes answers. -/
def RT (t : Nd) (P : By) (e : Ending) (w : World) : Prop := (∃ l x, rt t = some l ∧ e = .returned (.tuple #[x, .bool true]) ∧ Rv (pre P l) x w) ∨ (rt t = none ∧ e = .returned (.tuple #[.slice none 0 0, .bool false]))
end Tr
end Go.Proofs.Ytpgjgehkomoobaa
/- lampbearerref.routes at every node. -/
namespace Go.Proofs.Ytpgjgehkomoobaa
namespace Tr
open Nb Go.RowKit
mutual
/-- What a node weighs: all that it holds. -/
def wn : Nd → Nat
  | .mk _ p v ks => 4 + p.length + v.length + wnk ks
def wnk : List Nd → Nat
  | [] => 0
  | t :: r => wn t + wnk r
end
theorem wnk_one : ∀ (ks : List Nd) (j : Nat), j < ks.length → wn (ks.getD j Nd.no) ≤ wnk ks
  | [], j, h => absurd h (by simp)
  | k :: r, 0, _ => by unfold wnk; rw [List.getD_cons_zero]; omega
  | k :: r, j + 1, h => by
    have := wnk_one r j (by simpa using h)
    unfold wnk
    rw [List.getD_cons_succ]; omega
theorem wnk_take : ∀ (ks : List Nd) (j : Nat), j < ks.length → wnk (ks.take j) + wn (ks.getD j Nd.no) ≤ wnk ks
  | [], j, h => absurd h (by simp)
  | k :: r, 0, _ => by rw [List.take_zero, List.getD_cons_zero]; unfold wnk; omega
  | k :: r, j + 1, h => by
    have := wnk_take r j (by simpa using h)
    rw [List.take_succ_cons, List.getD_cons_succ]
    unfold wnk
    omega
theorem rtk_count : ∀ (ks : List Nd) (i : Nat) (L : Rt), (∀ j, j < ks.length → ∀ a, rt (ks.getD j Nd.no) = some a → a.length ≤ wn (ks.getD j Nd.no)) → rtk i ks = some L → L.length ≤ wnk ks
  | [], i, L, _, h => by unfold rtk at h; cases h; exact Nat.zero_le _
  | t :: r, i, L, hk, h => by
    unfold rtk at h
    cases ha : rt t with
    | none => rw [ha] at h; cases h
    | some a =>
      cases hb : rtk (i + 1) r with
      | none => rw [ha, hb] at h; cases h
      | some b =>
        rw [ha, hb] at h
        cases h
        have h1 := hk 0 (by simp) a (by rw [List.getD_cons_zero]; exact ha)
        rw [List.getD_cons_zero] at h1
        have h2 := rtk_count r (i + 1) b (fun j hj c hc => by
          have := hk (j + 1) (by simpa using hj) c
          rw [List.getD_cons_succ] at this
          exact this hc) hb
        unfold wnk
        rw [List.length_append, pre_len']
        omega
theorem rt_two (p v : By) (t : Nd) (hp : Pt p) : rt (.mk 2 p v [t]) = (rt t).map (pre p) := by
  rw [rt, if_neg (fun h => by rw [(ptb_iff p).2 hp] at h; cases h.2), if_neg (by decide), if_neg (by decide), if_pos ⟨rfl, rfl⟩, rt0]
theorem rt_count {t : Nd} (h : Wf t) : ∀ l, rt t = some l → l.length ≤ wn t := by
  induction h with
  | mk k p v ks _ ih =>
    intro l h
    unfold rt at h
    split at h
    · cases h
    split at h
    · cases h; exact Nat.zero_le _
    split at h
    · cases h
      unfold wn
      rw [List.length_singleton]; omega
    split at h
    · rename_i h2
      obtain ⟨t, rfl⟩ := List.length_eq_one_iff.1 h2.2
      rw [rt0] at h
      cases ha : rt t with
      | none => rw [ha] at h; cases h
      | some a =>
        rw [ha] at h
        cases h
        have := ih 0 (by simp) a ha
        rw [List.getD_cons_zero] at this
        unfold wn wnk wnk
        rw [pre_len']; omega
    split at h
    · rename_i h3
      cases ha : rtk 0 ks with
      | none => rw [ha] at h; cases h
      | some a =>
        rw [ha] at h
        cases h
        have := rtk_count ks 0 a ih ha
        unfold wn
        rw [List.length_append]
        split
        · rw [List.length_nil]; omega
        · rw [List.length_singleton]; omega
    · cases h
theorem rt_none_bad (k : Int) (p v : By) (ks : List Nd) (hk : k = 1 ∨ k = 2) (hp : ¬ Pt p) : rt (.mk k p v ks) = none := by
  rw [rt, if_pos ⟨hk, by cases h : ptb p with | false => rfl | true => exact absurd ((ptb_iff p).1 h) hp⟩]
end Tr
end Go.Proofs.Ytpgjgehkomoobaa
/- A node that came in. -/
namespace Go.Proofs.Ytpgjgehkomoobaa
namespace Tr
open Nb Go.ChangeShapes Go.WideShapes Go.ChangeAt Go.RowKit
theorem wnk_many : ∀ ks : List Nd, ks.length ≤ wnk ks
  | [] => Nat.zero_le _
  | .mk k p v js :: r => by
    have := wnk_many r
    unfold wnk wn
    rw [List.length_cons]; omega
theorem sm_wn {t : Nd} (h : Wf t) : wn t ≤ 4194304 → Sm t := by
  induction h with
  | mk k p v ks _ ih =>
    intro hw
    unfold wn at hw
    have h1 := wnk_many ks
    exact .mk k p v ks (by omega) (fun j hj => ih j hj (by have := wnk_one ks j hj; omega))
theorem blk1 {H : Type} (d : DataW H) : 1 ≤ Rows.uptoBulk d := by
  unfold Rows.uptoBulk
  split <;> omega
theorem blkN {H : Type} : ∀ l : List (DataW H), l.length ≤ Rows.uptoBulkAll l
  | [] => Nat.zero_le _
  | d :: r => by
    have h1 := blk1 d
    have h2 := blkN r
    rw [Rows.uptoBulkAll, List.length_cons]
    omega
theorem wnk_blk {H : Type} (G : Nat → Nd) (D : Nat → DataW H) : ∀ l : List Nat, (∀ i, i ∈ l → wn (G i) ≤ Rows.uptoBulk (D i)) → wnk (l.map G) ≤ Rows.uptoBulkAll (l.map D)
  | [], _ => Nat.zero_le _
  | i :: r, h => by
    have h1 := h i (List.mem_cons_self ..)
    have h2 := wnk_blk G D r (fun j hj => h j (List.mem_cons_of_mem _ hj))
    rw [List.map_cons, List.map_cons, Rows.uptoBulkAll]
    unfold wnk
    omega
set_option maxRecDepth 100000 in
/-- A text, by its cells. -/
theorem text_of {H : Type} {enc : TypeId × Value → H} {W : World} {fuel : Nat} {cs : List Value} {x : DataW H × List MemPlace} (hf : DataW.trod enc Try.prog W 0 (fun _ => true) true fuel 24 cs = some x) :
    ∃ (b : By) (v : Value), cs = [v] ∧ Bs (· < W.heap.size) b v W ∧ b.length + 1 ≤ Rows.uptoBulk x.1 := by
  rcases open_ints Try.underlying24 Try.underlying5 Sp.cellsU8 hf with ⟨hcs, hx⟩ | ⟨a, len, cap, zs, hcs, _, hl, hm, hz, hx, hcell, hwz⟩
  · subst hcs
    exact ⟨[], _, rfl, Bs_nil _ _, blk1 _⟩
  · subst hcs
    simp only [if_true] at hz
    have hb : ∀ z ∈ zs, 0 ≤ z ∧ z < 256 := fun z hz' => by have := bounds_u8 (hwz z hz'); omega
    have hb' : ∀ z ∈ zs.take len, 0 ≤ z ∧ z < 256 := fun z hz' => hb z (List.mem_of_mem_take hz')
    have hlt : (Sp.ub (zs.take len)).length = len := by rw [Sp.ub_length, List.length_take]; omega
    refine ⟨Sp.ub (zs.take len), _, rfl, ⟨some a, cap, by rw [hlt], by rw [hlt]; exact hl, fun h0 => ?_⟩, ?_⟩
    · rw [hlt] at h0
      obtain ⟨b, off, rfl, hc⟩ := ints_at hcell (by omega)
      have hbw : b < W.heap.size := World.block_lt_of_cell? W ⟨b, off + 0, none⟩ (hc 0 (by omega))
      refine ⟨b, off, rfl, hbw, hbw, fun j hj => ?_⟩
      rw [hlt] at hj
      rw [hc j (by omega), Sp.ub_bz _ hb' j (by rw [List.length_take]; omega)]
      simp [List.getD_eq_getElem?_getD, hj]
    · subst hx
      have h := blkN (lits (H := H) .u8 (zs.take len))
      have e : (lits (H := H) .u8 (zs.take len)).length = len := by simp [lits]; omega
      rw [e] at h
      rw [hlt]
      show _ ≤ Rows.uptoBulk (.slice (lits .u8 (zs.take len)) (lits .u8 (zs.drop len)))
      rw [Rows.uptoBulk]
      omega
end Tr
end Go.Proofs.Ytpgjgehkomoobaa
/- Pairs in memory; pairs that came in. -/
namespace Go.Proofs.Ytpgjgehkomoobaa
namespace Tr
open Nb Go.ChangeShapes Go.WideShapes Go.ChangeAt Go.RowKit
abbrev V2 := Value × Value
def m2 : V2 := (undef, undef)
/-- A slice of two values each, in a block of S. -/
def Pc (S : Nat → Prop) (vs : List V2) (v : Value) (w : World) : Prop := ∃ (ao : Option Addr) (cap : Nat), v = .slice ao vs.length cap ∧ vs.length ≤ cap ∧ (0 < vs.length → ∃ h off, ao = some ⟨h, off, none⟩ ∧ S h ∧ h < w.heap.size ∧ ∀ j, j < vs.length → w.cell? ⟨h, off + 2 * j, none⟩ = some (vs.getD j m2).1 ∧ w.cell? ⟨h, off + 2 * j + 1, none⟩ = some (vs.getD j m2).2)
/-- A slice of pairs, in blocks of S. -/
def Pv (S : Nat → Prop) (l : Rt) (v : Value) (w : World) : Prop := ∃ vs : List V2, vs.length = l.length ∧ Pc S vs v w ∧ ∀ j, j < l.length → Bs S (l.getD j n2).1 (vs.getD j m2).1 w ∧ Bs S (l.getD j n2).2 (vs.getD j m2).2 w
theorem Pc_gb {S : Nat → Prop} {vs : List V2} {v : Value} {w w' : World} {r : Option Nat} (h : Pc S vs v w) (hb : w.grownBy w' r) (hr : ∀ k, S k → some k ≠ r) : Pc S vs v w' := by
  obtain ⟨ao, cap, h1, h2, h4⟩ := h
  refine ⟨ao, cap, h1, h2, fun h0 => ?_⟩
  obtain ⟨k, off, e, hne, hlt, hc⟩ := h4 h0
  have hbk : w'.heap[k]? = w.heap[k]? := hb.block k hlt (hr k hne)
  exact ⟨k, off, e, hne, Nat.lt_of_lt_of_le hlt hb.size, fun j hj => ⟨(World.cell?_of_block (a := ⟨k, off + 2 * j, none⟩) hbk).trans (hc j hj).1, (World.cell?_of_block (a := ⟨k, off + 2 * j + 1, none⟩) hbk).trans (hc j hj).2⟩⟩
theorem Pv_gb {S : Nat → Prop} {l : Rt} {v : Value} {w w' : World} {r : Option Nat} (h : Pv S l v w) (hb : w.grownBy w' r) (hr : ∀ k, S k → some k ≠ r) : Pv S l v w' := by
  obtain ⟨vs, h1, h2, h3⟩ := h
  exact ⟨vs, h1, Pc_gb h2 hb hr, fun j hj => ⟨Bs_gb (h3 j hj).1 hb hr, Bs_gb (h3 j hj).2 hb hr⟩⟩
theorem Pv_below {S : Nat → Prop} {l : Rt} {v : Value} {w w' : World} (h : Pv S l v w) (hb : Below w.heap.size w w') : Pv S l v w' := Pv_gb (r := none) h (gb_below hb) (fun k _ e => by cases e)
theorem Pv_mono {S S' : Nat → Prop} {l : Rt} {v : Value} {w : World} (h : Pv S l v w) (hs : ∀ k, S k → k < w.heap.size → S' k) : Pv S' l v w := by
  obtain ⟨vs, h1, ⟨ao, cap, g1, g2, g4⟩, h3⟩ := h
  refine ⟨vs, h1, ⟨ao, cap, g1, g2, fun h0 => ?_⟩, fun j hj => ⟨Bs_mono (h3 j hj).1 hs, Bs_mono (h3 j hj).2 hs⟩⟩
  obtain ⟨k, off, e, hne, hlt, hc⟩ := g4 h0
  exact ⟨k, off, e, hs k hne hlt, hlt, hc⟩
theorem Pv_nil (S : Nat → Prop) (w : World) : Pv S [] (.slice none 0 0) w := ⟨[], rfl, ⟨none, 0, rfl, Nat.le_refl _, fun h => absurd h (by simp)⟩, fun j hj => absurd hj (by simp)⟩
theorem Pv_form {S : Nat → Prop} {l : Rt} {v : Value} {w : World} (h : Pv S l v w) : ∃ ao cap, v = .slice ao l.length cap ∧ l.length ≤ cap := by
  obtain ⟨vs, h1, ⟨ao, cap, g1, g2, _⟩, _⟩ := h
  rw [h1] at g1 g2
  exact ⟨ao, cap, g1, g2⟩
/-- One of them. -/
theorem Pv_at {S : Nat → Prop} {l : Rt} {ao : Option Addr} {n cap : Nat} {w : World} (h : Pv S l (.slice ao n cap) w) {j : Nat} (hj : j < l.length) : ∃ (g off : Nat) (kv vv : Value), ao = some ⟨g, off, none⟩ ∧ S g ∧ g < w.heap.size ∧ w.cell? ⟨g, off + 2 * j, none⟩ = some kv ∧ w.cell? ⟨g, off + 2 * j + 1, none⟩ = some vv ∧ Bs S (l.getD j n2).1 kv w ∧ Bs S (l.getD j n2).2 vv w := by
  obtain ⟨vs, h1, ⟨ao', cap', g1, g2, g4⟩, h3⟩ := h
  injection g1 with e1 e2 e3
  subst e1
  obtain ⟨k, off, e, hne, hlt, hc⟩ := g4 (by omega)
  exact ⟨k, off, _, _, e, hne, hlt, (hc j (by omega)).1, (hc j (by omega)).2, (h3 j hj).1, (h3 j hj).2⟩
theorem sum_blk {H : Type} (G : Nat → Nat) (D : Nat → DataW H) : ∀ l : List Nat, (∀ i, i ∈ l → G i ≤ Rows.uptoBulk (D i)) → (l.map G).sum ≤ Rows.uptoBulkAll (l.map D)
  | [], _ => Nat.zero_le _
  | i :: r, h => by
    have h1 := h i (List.mem_cons_self ..)
    have h2 := sum_blk G D r (fun j hj => h j (List.mem_cons_of_mem _ hj))
    rw [List.map_cons, List.map_cons, Rows.uptoBulkAll, List.sum_cons]
    omega
end Tr
end Go.Proofs.Ytpgjgehkomoobaa
/- A word that came in: its four parts make a number below 2^256. -/
namespace Go.Proofs.Ytpgjgehkomoobaa
open Go.ChangeShapes Go.WideShapes Go.ChangeAt Go.RowKit Go.Joins
theorem Try.own : ownKnob Try.prog.godebug = none := by kernel_rfl
theorem Try.laidOut : laidOutB Try.prog = true := by kernel_rfl
theorem Try.cellsWord : Try.prog.cellsOf 32 = 4 := by kernel_rfl
theorem wd_parts (p q r s : Int) (hp : 0 ≤ p ∧ p < 18446744073709551616) (hq : 0 ≤ q ∧ q < 18446744073709551616) (hr : 0 ≤ r ∧ r < 18446744073709551616) (hs : 0 ≤ s ∧ s < 18446744073709551616) : ∃ n : Nat, n < 2 ^ 256 ∧ Value.agg #[.int .u64 p, .int .u64 q, .int .u64 r, .int .u64 s] = Wd n := by
  refine ⟨(p + q * 18446744073709551616 + r * 340282366920938463463374607431768211456 + s * 6277101735386680763835789423207666416102355444464034512896).toNat, by omega, wd_of ?_ ?_ ?_ ?_⟩
  · rw [dg0]; omega
  · rw [dg1]; omega
  · rw [dg2]; omega
  · rw [dg3]; omega
theorem okWide_array {P : Program} {w : World} {r : Reach} {base : Nat} {t e : TypeId} {n : Nat} {v : Value} (ht : P.underlying t = some (.array n e)) (h : Value.okWide P w r base t v) : ∃ cs, v = .agg cs ∧ cs.size = P.cellsOf t := by
  simp only [Value.okWide, ht] at h
  obtain ⟨cs, h1, h2, _⟩ := h
  exact ⟨cs, h1, h2⟩
theorem open_word {H : Type} {enc : TypeId × Value → H} {W : World} {r : Reach} {b0 base : Nat} {spare : Nat → Bool} {held : Bool} {v : Value} {d : DataW H} {p : List MemPlace}
    (hv : Value.okWide Try.prog W r b0 32 v) (h : DataW.Trod enc Try.prog W base spare held 32 v d p) : ∃ n : Nat, n < 2 ^ 256 ∧ v = Wd n := by
  obtain ⟨cs, rfl, hsz⟩ := okWide_array Try.underlying32 hv
  obtain ⟨c0, c1, c2, c3, rfl⟩ := array4 (hsz.trans Try.cellsWord)
  obtain ⟨fuel, hf⟩ := h
  obtain ⟨y0, y1, y2, y3, n, hx, h0, h1, h2, h3⟩ := trod_array4 Try.underlying32 Try.cellsU64 (by simpa [Value.cells] using hf)
  obtain ⟨a, e0, _, wa⟩ := DataW.trod_int Try.underlying27 h0
  obtain ⟨b, e1, _, wb⟩ := DataW.trod_int Try.underlying27 h1
  obtain ⟨c, e2, _, wc⟩ := DataW.trod_int Try.underlying27 h2
  obtain ⟨e, e3, _, we⟩ := DataW.trod_int Try.underlying27 h3
  simp at e0 e1 e2 e3
  subst e0 e1 e2 e3
  have ba := bounds_u64 wa
  have bb := bounds_u64 wb
  have bc := bounds_u64 wc
  have be := bounds_u64 we
  exact wd_parts a b c e (by omega) (by omega) (by omega) (by omega)
end Go.Proofs.Ytpgjgehkomoobaa
/- Operations on memory that came in. -/
namespace Go.Proofs.Ytpgjgehkomoobaa
namespace Mm
open Go.ChangeShapes Go.WideShapes Go.ChangeAt Go.RowKit Go.Joins
theorem cellsOp : Try.prog.cellsOf 39 = 18 := by kernel_rfl
theorem cellsI : Try.prog.cellsOf 3 = 1 := by kernel_rfl
theorem cellsBs : Try.prog.cellsOf 24 = 1 := by kernel_rfl
theorem word_of {H : Type} {enc : TypeId × Value → H} {W : World} {fuel : Nat} {c0 c1 c2 c3 : Value} {x : DataW H × List MemPlace} (h : DataW.trod enc Try.prog W 0 (fun _ => true) true fuel 32 [c0, c1, c2, c3] = some x) :
    ∃ n : Nat, n < 2 ^ 256 ∧ c0 = .int .u64 (dg n 0) ∧ c1 = .int .u64 (dg n 1) ∧ c2 = .int .u64 (dg n 2) ∧ c3 = .int .u64 (dg n 3) := by
  obtain ⟨y0, y1, y2, y3, n, hx, h0, h1, h2, h3⟩ := trod_array4 Try.underlying32 Try.cellsU64 h
  obtain ⟨a, e0, _, wa⟩ := DataW.trod_int Try.underlying27 h0
  obtain ⟨b, e1, _, wb⟩ := DataW.trod_int Try.underlying27 h1
  obtain ⟨c, e2, _, wc⟩ := DataW.trod_int Try.underlying27 h2
  obtain ⟨e, e3, _, we⟩ := DataW.trod_int Try.underlying27 h3
  simp at e0 e1 e2 e3
  subst e0 e1 e2 e3
  have ba := bounds_u64 wa
  have bb := bounds_u64 wb
  have bc := bounds_u64 wc
  have be := bounds_u64 we
  obtain ⟨n, hn, e⟩ := wd_parts a b c e (by omega) (by omega) (by omega) (by omega)
  unfold Wd at e
  injection e with e
  have f0 := congrArg (fun a : Array Value => a.getD 0 undef) e
  have f1 := congrArg (fun a : Array Value => a.getD 1 undef) e
  have f2 := congrArg (fun a : Array Value => a.getD 2 undef) e
  have f3 := congrArg (fun a : Array Value => a.getD 3 undef) e
  exact ⟨n, hn, f0, f1, f2, f3⟩
/-- All numbers of an operation are words. -/
def Wl (o : Mo) : Prop := o.a < 2 ^ 256 ∧ o.f < 2 ^ 256 ∧ o.l < 2 ^ 256 ∧ o.w < 2 ^ 256
def ocl (o : Mo) (v : Value) : List Value := [.int .i64 o.k, .int .u64 (dg o.a 0), .int .u64 (dg o.a 1), .int .u64 (dg o.a 2), .int .u64 (dg o.a 3), .int .u64 (dg o.f 0), .int .u64 (dg o.f 1), .int .u64 (dg o.f 2), .int .u64 (dg o.f 3), .int .u64 (dg o.l 0), .int .u64 (dg o.l 1), .int .u64 (dg o.l 2), .int .u64 (dg o.l 3), .int .u64 (dg o.w 0), .int .u64 (dg o.w 1), .int .u64 (dg o.w 2), .int .u64 (dg o.w 3), v]
theorem ocl_get (o : Mo) (v : Value) (j : Nat) (h : j < 18) : (ocl o v)[j]? = some (oc o.k o.a o.f o.l o.w v j) := by
  have := oc_of o.k o.a o.f o.l o.w v j h
  rw [List.getElem?_toArray] at this
  exact this
set_option maxRecDepth 100000 in
theorem op_of {H : Type} {enc : TypeId × Value → H} {W : World} {fuel : Nat} {cs : List Value} {x : DataW H × List MemPlace} (h : DataW.trod enc Try.prog W 0 (fun _ => true) true fuel 39 cs = some x) :
    ∃ (o : Mo) (v : Value), cs = ocl o v ∧ Tr.Bs (· < W.heap.size) o.d v W ∧ Wl o ∧ o.d.length + 1 ≤ Rows.uptoBulk x.1 := by
  obtain ⟨xs, n, rfl, rfl, hl, hlen, hf⟩ := DataW.trod_struct Try.underlying39 h
  match xs, hlen with
  | [y0, y1, y2, y3, y4, y5], _ =>
    have f0 := hf 0 _ rfl
    have f1 := hf 1 _ rfl
    have f2 := hf 2 _ rfl
    have f3 := hf 3 _ rfl
    have f4 := hf 4 _ rfl
    have f5 := hf 5 _ rfl
    rw [cellsOp] at hl
    match cs, hl with
    | [c0, c1, c2, c3, c4, c5, c6, c7, c8, c9, c10, c11, c12, c13, c14, c15, c16, c17], _ =>
      simp only [List.getElem?_cons_zero, List.getElem?_cons_succ] at f0 f1 f2 f3 f4 f5
      obtain ⟨k, e0, _, _⟩ := DataW.trod_int Try.underlying3 f0
      obtain ⟨a, ha, a0, a1, a2, a3⟩ := word_of f1
      obtain ⟨b, hb, b0, b1, b2, b3⟩ := word_of f2
      obtain ⟨c, hc, g0, g1, g2, g3⟩ := word_of f3
      obtain ⟨e, he, d0, d1, d2, d3⟩ := word_of f4
      obtain ⟨d, v, e5, ht, hd⟩ := Tr.text_of f5
      injection e0 with e0 _
      injection e5 with e5 _
      subst e0 e5 a0 a1 a2 a3 b0 b1 b2 b3 g0 g1 g2 g3 d0 d1 d2 d3
      have hB : Rows.uptoBulk (DataW.agg ([y0, y1, y2, y3, y4, y5].map (·.1))) = Rows.uptoBulk y0.1 + (Rows.uptoBulk y1.1 + (Rows.uptoBulk y2.1 + (Rows.uptoBulk y3.1 + (Rows.uptoBulk y4.1 + (Rows.uptoBulk y5.1 + 0))))) + 1 := by
        rw [Rows.uptoBulk]
        rfl
      refine ⟨⟨k, a, b, c, e, d⟩, _, rfl, ht, ⟨ha, hb, hc, he⟩, ?_⟩
      rw [hB]
      show d.length + 1 ≤ _
      omega
theorem bulk_at {H : Type} : ∀ (l : List (DataW H)) (j : Nat) (x : DataW H), l[j]? = some x → Rows.uptoBulk x ≤ Rows.uptoBulkAll l
  | [], j, x, h => by simp at h
  | y :: r, 0, x, h => by
    simp at h
    subst h
    rw [Rows.uptoBulkAll]
    omega
  | y :: r, j + 1, x, h => by
    have := bulk_at r j x (by simpa using h)
    rw [Rows.uptoBulkAll]
    omega
theorem Mr_nil (S : Nat → Prop) (w : World) : Mr S [] (.slice none 0 0) w := ⟨[], none, 0, rfl, rfl, Nat.le_refl _, fun h => absurd h (by simp)⟩
set_option maxRecDepth 100000 in
theorem open_ops {H : Type} {enc : TypeId × Value → H} {W : World} {r : Reach} {b0 : Nat} {v : Value} {d : DataW H} {p : List MemPlace}
    (hv : Value.okWide Try.prog W r b0 22 v) (h : DataW.Trod enc Try.prog W 0 (fun _ => true) true 22 v d p) :
    ∃ l : List Mo, Mr (· < W.heap.size) l v W ∧ l.length + 1 ≤ Rows.uptoBulk d ∧ ∀ j, j < l.length → Wl (l.getD j no) ∧ (l.getD j no).d.length ≤ Rows.uptoBulk d := by
  obtain ⟨a0, len, cap, rfl⟩ := okWide_slice Try.underlying22 hv
  obtain ⟨fuel, hf⟩ := h
  rcases DataW.trod_slice Try.underlying22 hf with ⟨hcs, hx⟩ | ⟨a, len', cap', elems, rest, m, rfl, hcs, hx, _, hle, _, hel, hat, _, _⟩
  · simp [Value.cells] at hcs
    obtain ⟨rfl, rfl, rfl⟩ := hcs
    exact ⟨[], Mr_nil _ _, Tr.blk1 _, fun j hj => absurd hj (by simp)⟩
  · simp [Value.cells] at hcs
    obtain ⟨rfl, rfl, rfl⟩ := hcs
    have hd : Rows.uptoBulk d = Rows.uptoBulkAll (elems.map (·.1)) + Rows.uptoBulkAll (rest.map (·.1)) + 1 := by
      have : d = _ := congrArg Prod.fst hx
      rw [this, Rows.uptoBulk]
    have HI : ∀ i, ∃ p : Mo × Value, i < len → (∃ cs', W.cells? 0 (a.add (i * 18)) 18 = some cs' ∧ cs' = ocl p.1 p.2) ∧ Tr.Bs (· < W.heap.size) p.1.d p.2 W ∧ Wl p.1 ∧ p.1.d.length ≤ Rows.uptoBulk d := fun i => by
      by_cases hi : i < len
      · have k := hat i hi
        rw [cellsOp] at k
        rw [List.getElem?_eq_getElem (by omega)] at k
        cases hc : W.cells? 0 (a.add (i * 18)) 18 with
        | none => rw [hc] at k; cases k
        | some cs' =>
          rw [hc] at k
          obtain ⟨o, u, e1, e2, e3, e4⟩ := op_of k
          have hb := bulk_at (elems.map (·.1)) i (elems[i]'(by omega)).1 (by simp [List.getElem?_eq_getElem (show i < elems.length by omega)])
          exact ⟨(o, u), fun _ => ⟨⟨cs', rfl, e1⟩, e2, e3, by show o.d.length ≤ _; omega⟩⟩
      · exact ⟨(no, undef), fun h => absurd h hi⟩
    obtain ⟨F, hF⟩ := Classical.axiomOfChoice HI
    have hks : ((List.range len).map fun i => (F i).1).length = len := by simp
    have hvs : ((List.range len).map fun i => (F i).2).length = len := by simp
    refine ⟨(List.range len).map fun i => (F i).1, ⟨(List.range len).map fun i => (F i).2, some a, cap, by rw [hvs, hks], by rw [hks], by rw [hks]; exact hle, fun hp => ?_⟩, ?_, fun j hj => ?_⟩
    · rw [hks] at hp
      obtain ⟨bl, off, spot⟩ := a
      obtain ⟨cs', k1, k2⟩ := (hF 0 hp).1
      obtain ⟨_, _, k3⟩ := World.cells?_some k1
      have k4 := k3 0 (by decide)
      rw [k2, ocl_get _ _ 0 (by decide)] at k4
      have hspot : spot = none := by simpa [Addr.add] using World.cell?_spot k4
      subst hspot
      have hbw : bl < W.heap.size := World.block_lt_of_cell? W _ (by simpa [Go.WideShapes.add_plain] using k4)
      refine ⟨bl, off, rfl, hbw, hbw, fun j hj => ?_⟩
      rw [hks] at hj
      rw [Tr.getD_range _ _ _ _ hj, Tr.getD_range _ _ _ _ hj]
      obtain ⟨cs2, k5, k6⟩ := (hF j hj).1
      obtain ⟨_, _, k7⟩ := World.cells?_some k5
      rw [Go.WideShapes.add_plain] at k7
      refine ⟨fun o ho => ?_, (hF j hj).2.1⟩
      have g0 := k7 o ho
      rw [Go.WideShapes.add_plain, k6, ocl_get _ _ o ho] at g0
      rw [Nat.mul_comm 18 j]
      exact g0
    · have hN := Tr.blkN (elems.map (·.1))
      rw [List.length_map, hel] at hN
      rw [hd, hks]
      omega
    · rw [hks] at hj
      rw [Tr.getD_range _ _ _ _ hj]
      exact (hF j hj).2.2
theorem Mr_gb {S : Nat → Prop} {l : List Mo} {v : Value} {w w' : World} {r : Option Nat} (h : Mr S l v w) (hb : w.grownBy w' r) (hr : ∀ k, S k → some k ≠ r) : Mr S l v w' := by
  obtain ⟨ds, ao, cap, h1, h2, h3, h4⟩ := h
  refine ⟨ds, ao, cap, h1, h2, h3, fun h0 => ?_⟩
  obtain ⟨k, off, e, hne, hlt, hc⟩ := h4 h0
  have hbk : w'.heap[k]? = w.heap[k]? := hb.block k hlt (hr k hne)
  exact ⟨k, off, e, hne, Nat.lt_of_lt_of_le hlt hb.size, fun j hj => ⟨fun o ho => (World.cell?_of_block (a := ⟨k, off + 18 * j + o, none⟩) hbk).trans ((hc j hj).1 o ho), Tr.Bs_gb (hc j hj).2 hb hr⟩⟩
theorem Mr_mono {S S' : Nat → Prop} {l : List Mo} {v : Value} {w : World} (h : Mr S l v w) (hs : ∀ k, S k → k < w.heap.size → S' k) : Mr S' l v w := by
  obtain ⟨ds, ao, cap, h1, h2, h3, h4⟩ := h
  refine ⟨ds, ao, cap, h1, h2, h3, fun h0 => ?_⟩
  obtain ⟨k, off, e, hne, hlt, hc⟩ := h4 h0
  exact ⟨k, off, e, hs k hne hlt, hlt, fun j hj => ⟨(hc j hj).1, Tr.Bs_mono (hc j hj).2 hs⟩⟩
theorem Mr_below {l : List Mo} {v : Value} {w w' : World} (h : Mr (· < w.heap.size) l v w) (hb : Below w.heap.size w w') : Mr (· < w'.heap.size) l v w' :=
  Mr_mono (Mr_gb (r := none) h (Tr.gb_below hb) (fun k _ e => by cases e)) (fun k h1 h2 => h2)
theorem wf_of {o : Mo} {n : Nat} (h : Wl o) (h2 : o.d.length ≤ n) (hn : n ≤ 1048576) : Wf o := ⟨h.1, h.2.1, h.2.2.1, by omega⟩
end Mm
end Go.Proofs.Ytpgjgehkomoobaa
/- memory: slices.Equal of answers; the law. -/
namespace Go.Proofs.Ytpgjgehkomoobaa
namespace Kp
open Go.RowKit Go.Maps
open Mm (By lay grw gco cst od oc s6 s2 av An Mo dn spans tch spn Wf cut mi an no Mr a6 Mw)
theorem neqv6 {T : TypeId} {xs ys : Array Value} {v : Bool} {w : World} (h : (binOp .eql T (.agg xs) (.agg ys)).run Try.prog w = .ok (.bool v) w) : (binOp .neq T (.agg xs) (.agg ys)).run Try.prog w = .ok (.bool (!v)) w := by
  rw [run_eql_struct] at h
  rw [run_neq_struct]
  generalize (Op.equalIn 10000 T (.agg xs) (.agg ys)).run Try.prog w = r at *
  cases r with
  | ok b w' => simp only [Result.andThen_ok, Result.ok.injEq, Value.bool.injEq] at h ⊢; exact ⟨by rw [h.1], h.2⟩
  | halt x w' => simp [Result.andThen] at h
/-- Two answers that are the same. -/
theorem neqAo {K : Value → World → Prop} {a : Act} {o : Oper} {X Y : Operand} {x : An} {w : World} (ho : o.op = .binOp .neq 34 X Y 34) (hx : a.eval X = av x) (hy : a.eval Y = av x)
    (hK : K (.bool false) w) : RS.upv Try.prog K ((execOp a.eval o).run Try.prog w) := by
  obtain ⟨dst, op, ty, pos, after, guard⟩ := o
  simp only at ho
  subst ho
  generalize a.eval = ρ at *
  have e1 : (binOp .neq 34 (av x) (av x)).run Try.prog w = .ok (.bool false) w := by
    have h := neqv6 (Mm.eqA x x w)
    have : Mm.sa x x = true := decide_eq_true ⟨rfl, rfl, rfl⟩
    rw [this] at h
    exact h
  have g1 : (eqGuard .neq 34 X Y (av x) (av x)).run Try.prog w = .ok () w := run_eqGuard_agg w .neq _ X Y _ _ Mm.eqGuardA
  go_simp
  exact hK
/-- A slice of answers. -/
def AR (F : Nat → An) (n : Nat) (ao : Option Addr) (w : World) : Prop := 0 < n → ∃ g off, ao = some ⟨g, off, none⟩ ∧ g < w.heap.size ∧ ∀ j, j < n → ∀ o, o < 6 → w.cell? ⟨g, off + j * 6 + o, none⟩ = some (s6 (F j).1 (F j).2.1 (F j).2.2 o)
theorem AR_below {F : Nat → An} {n : Nat} {ao : Option Addr} {w w' : World} (h : AR F n ao w) (hb : Below w.heap.size w w') : AR F n ao w' := fun h0 => by
  obtain ⟨g, off, e, hg, hc⟩ := h h0
  exact ⟨g, off, e, Nat.lt_of_lt_of_le hg hb.size, fun j hj o ho => (hb.cell (p := ⟨g, off + j * 6 + o, none⟩) hg).trans (hc j hj o ho)⟩
theorem ansl_len (l : List Mo) : ∀ i, (ansl l i).length = i * 6
  | 0 => rfl
  | i + 1 => by rw [ansl, List.length_append, ansl_len l i, Mm.a6_len]; omega
theorem ansl_get (l : List Mo) : ∀ (i j o : Nat), j < i → o < 6 → (ansl l i)[j * 6 + o]? = some (s6 (an l j).1 (an l j).2.1 (an l j).2.2 o)
  | 0, _, _, h, _ => absurd h (Nat.not_lt_zero _)
  | i + 1, j, o, h, ho => by
    rw [ansl]
    by_cases e : j = i
    · subst e
      rw [List.getElem?_append_right (by rw [ansl_len]; omega), ansl_len, Nat.add_sub_cancel_left]
      exact Mm.a6_get _ o ho
    · rw [List.getElem?_append_left (by rw [ansl_len]; omega)]
      exact ansl_get l i j o (by omega) ho
theorem row_AR {B n : Nat} {l : List Mo} {v : Value} {w : World} (h : w.ownsRow B 34 6 v n (ansl l n)) : ∃ ao cap, v = .slice ao n cap ∧ n ≤ cap ∧ AR (an l) n ao w := by
  have h2 := h.2
  rcases h2 with ⟨h3, h4⟩ | ⟨g, cap, cur, h3, h5⟩
  · subst h4
    exact ⟨none, 0, h3, Nat.le_refl _, fun h => absurd h (Nat.lt_irrefl _)⟩
  · subst h3
    refine ⟨some ⟨g, 0, none⟩, cap, rfl, h5.2.2.1, fun _ => ⟨g, 0, rfl, Pk.lt_of_heap h5.2.1, fun j hj o ho => ?_⟩⟩
    rw [Nat.zero_add, h.cellAt (j * 6 + o) (by omega)]
    exact ansl_get l n j o hj ho
set_option maxHeartbeats 2000000 in
set_option maxRecDepth 100000 in
theorem eqma_any (F : Nat → An) (n : Nat) (ax ay : Option Addr) (cx cy : Nat) (w : World) (hz : Hid (n ≤ 1048576)) (hcx : n ≤ cx) (hcy : n ≤ cy) (hx : Hid (AR F n ax w)) (hy : Hid (AR F n ay w)) :
    Calls Try.prog 8 #[.slice ax n cx, .slice ay n cy] w fun e w' => e = .returned (.bool true) ∧ Below w.heap.size w w' := by
  go_enter Try.func8, Try.ntmps8
  go_wp2_with fail
  go_loopw [13] (fun s wr => ∃ (i : Nat), i ≤ n ∧ s = .int .i64 (i : Int) ∧ Below w.heap.size w wr) (fun s _ => ((n : Int) - intOf s).toNat)
  case atStart => exact ⟨0, Nat.zero_le _, rfl, Below.refl _ _⟩
  case round =>
    obtain ⟨i, hi, rfl, hb⟩ := hrel
    by_cases hlt : i < n
    · have d0 : (0 : Int) ≤ (i : Int) := by omega
      have d1 : (i : Int) < (n : Int) := by omega
      obtain ⟨gx, ox, rfl, hgx, kx⟩ := hx.out (by omega)
      obtain ⟨gy, oy, rfl, hgy, ky⟩ := hy.out (by omega)
      have HX : Hid (gx < wr.heap.size ∧ ∀ o, o < 6 → wr.cell? ⟨gx, ox + i * 6 + o, none⟩ = some (s6 (F i).1 (F i).2.1 (F i).2.2 o)) := ⟨Nat.lt_of_lt_of_le hgx hb.size, fun o ho => (hb.cell (p := ⟨gx, ox + i * 6 + o, none⟩) hgx).trans (kx i hlt o ho)⟩
      have HY : Hid (gy < wr.heap.size ∧ ∀ o, o < 6 → wr.cell? ⟨gy, oy + i * 6 + o, none⟩ = some (s6 (F i).1 (F i).2.1 (F i).2.2 o)) := ⟨Nat.lt_of_lt_of_le hgy hb.size, fun o ho => (hb.cell (p := ⟨gy, oy + i * 6 + o, none⟩) hgy).trans (ky i hlt o ho)⟩
      have HB : Hid _ := hb
      clear kx ky hgx hgy hb
      go_wp2_with fail
      refine RS.wp_region_one (fun wx => Below wr.heap.size wr wx) (by kernel_rfl) (by kernel_rfl) ((Below.refl _ _).drew) ?_
      dsimp only [List.toList_toArray]
      refine RS.go1 (v := ?_) (a' := ?_) rfl ?_ ?_ ?_
      rotate_left 2
      · intro K wx hS hK
        go_simp
        exact hK _ hS
      · simp only [Act.put, List.setIfInBounds_toArray, List.set_cons_succ, List.set_cons_zero]
        rfl
      refine RS.go1 (v := ?_) (a' := ?_) rfl ?_ ?_ ?_
      rotate_left 2
      · intro K wx hS hK
        go_simp
        exact hK _ hS
      · simp only [Act.put, List.setIfInBounds_toArray, List.set_cons_succ, List.set_cons_zero]
        rfl
      refine RS.go1 (v := ?_) (a' := ?_) rfl ?_ ?_ ?_
      rotate_left 2
      · intro K wx hS hK
        go_simp
        exact hK _ hS
      · simp only [Act.put, List.setIfInBounds_toArray, List.set_cons_succ, List.set_cons_zero]
        rfl
      refine RS.go1 (v := ?_) (a' := ?_) rfl ?_ ?_ ?_
      rotate_left 2
      · intro K wx hS hK
        refine Mm.ldA (x := (F i)) (b := ox + i * 6) rfl rfl (fun o ho => (hS.cell (p := ⟨gx, ox + i * 6 + o, none⟩) HX.out.1).trans (HX.out.2 o ho)) ?_
        exact hK _ hS
      · simp only [Act.put, List.setIfInBounds_toArray, List.set_cons_succ, List.set_cons_zero]
        rfl
      refine RS.go1 (v := ?_) (a' := ?_) rfl ?_ ?_ ?_
      rotate_left 2
      · intro K wx hS hK
        go_simp
        exact hK _ hS
      · simp only [Act.put, List.setIfInBounds_toArray, List.set_cons_succ, List.set_cons_zero]
        rfl
      refine RS.go1 (v := ?_) (a' := ?_) rfl ?_ ?_ ?_
      rotate_left 2
      · intro K wx hS hK
        go_simp
        exact hK _ hS
      · simp only [Act.put, List.setIfInBounds_toArray, List.set_cons_succ, List.set_cons_zero]
        rfl
      refine RS.go1 (v := ?_) (a' := ?_) rfl ?_ ?_ ?_
      rotate_left 2
      · intro K wx hS hK
        go_simp
        exact hK _ hS
      · simp only [Act.put, List.setIfInBounds_toArray, List.set_cons_succ, List.set_cons_zero]
        rfl
      refine RS.go1 (v := ?_) (a' := ?_) rfl ?_ ?_ ?_
      rotate_left 2
      · intro K wx hS hK
        refine Mm.ldA (x := (F i)) (b := oy + i * 6) rfl rfl (fun o ho => (hS.cell (p := ⟨gy, oy + i * 6 + o, none⟩) HY.out.1).trans (HY.out.2 o ho)) ?_
        exact hK _ hS
      · simp only [Act.put, List.setIfInBounds_toArray, List.set_cons_succ, List.set_cons_zero]
        rfl
      refine RS.go1 (v := ?_) (a' := ?_) rfl ?_ ?_ ?_
      rotate_left 2
      · intro K wx hS hK
        refine neqAo (x := F i) rfl rfl rfl ?_
        exact hK _ hS
      · simp only [Act.put, List.setIfInBounds_toArray, List.set_cons_succ, List.set_cons_zero]
        rfl
      refine RS.go_end ?_
      intro w9 b9
      have BW : Hid (Below w.heap.size w w9) := HB.out.trans (b9.mono HB.out.size)
      clear b9 HB HX HY
      have hw := Mm.stw i n hlt hz.out
      go_wp2_with fail
      go_roundw
      case rel => exact ⟨i + 1, hlt, Mm.stv i _ (by first | rfl | exact hw.out), BW.out⟩
      case measure => exact Mm.stm i n hlt _ (by first | rfl | exact hw.out)
    · have ek : i = n := by omega
      subst ek
      have HB : Hid _ := hb
      have d0 : decide ((i : Int) < (i : Int)) = false := decide_eq_false (by omega)
      clear hb
      go_wp2_with fail
      go_ret
      exact ⟨rfl, HB.out⟩
set_option maxHeartbeats 2000000 in
set_option maxRecDepth 100000 in
theorem law_plays_walk (k : Int) (l : List Mo) (hl : ∀ j, j < l.length → Wf (l.getD j no)) (ao : Option Addr) (n cap : Nat) (w : World) (hn : Hid (n = l.length)) (hz : Hid (n ≤ 1048576)) (hm : Hid (Mr (· < w.heap.size) l (.slice ao n cap) w)) :
    Calls Try.prog 3 #[.int .i64 k, .slice ao n cap] w fun e w' => e = .returned (.bool true) ∧ Below w.heap.size w w' := by
  have HL : Hid (∀ j, j < l.length → Wf (l.getD j no)) := hl
  have KP : Hid (∀ W : World, Below w.heap.size w W → Calls Try.prog 4 #[.slice ao n cap] W fun e w' => ∃ ga u, e = .returned (.tuple #[.slice (some ⟨ga, 0, none⟩) n n, u]) ∧ Mm.Rp W.heap.size ga l u w' ∧ Below W.heap.size W w') := fun W hb => by
    have := Mm.play_any l HL.out (by rw [← hn.out]; exact hz.out) _ W (Mm.Mr_below hm.out hb)
    rw [← hn.out] at this
    exact this
  have KK : Hid (∀ W : World, Below w.heap.size w W → Calls Try.prog 5 #[.slice ao n cap] W fun e w' => ∃ v u, e = .returned (.tuple #[v, u]) ∧ w'.ownsRow (W.heap.size + 2) 34 6 v n (ansl l n) ∧ Tr.Bs (W.heap.size ≤ ·) (mi l n) u w' ∧ Below W.heap.size W w') := fun W hb => kplay_walk l HL ao n cap W hn hz (Mm.Mr_below hm.out hb)
  clear hl hm
  go_enter Try.func3, Try.ntmps3
  go_wp2_with fail
  refine (KP.out w (Below.refl _ _)).mono ?_
  rintro e w1 ⟨ga, u, rfl, rp, b1⟩
  have RP : Hid _ := rp
  have B1 : Hid _ := b1
  clear rp b1 KP
  go_wp2_with fail
  refine (KK.out w1 B1.out).mono ?_
  rintro e w2 ⟨v, u2, rfl, ow, bs, b2⟩
  obtain ⟨ao2, cap2, rfl, hcap, ar⟩ := row_AR ow
  have HA : Hid (AR (an l) n ao2 w2 ∧ AR (an l) n (some ⟨ga, 0, none⟩) w2) := ⟨ar, fun _ => ⟨ga, 0, rfl, Nat.lt_of_lt_of_le RP.out.hi b2.size, fun j hj o ho => by
    have := (b2.cell (p := ⟨ga, j * 6 + o, none⟩) RP.out.hi).trans (RP.out.c j (by rw [← hn.out]; exact hj) o ho)
    rw [Nat.zero_add]
    exact this⟩⟩
  obtain ⟨au, cu, rfl, hcu, hru⟩ := bs
  have rb := Mm.Bs_below RP.out.b b2
  rw [← hn.out] at rb
  obtain ⟨au1, cu1, rfl, hcu1, hru1⟩ := rb
  generalize mi l n = m at *
  have HB : Hid (Tr.Bs (w1.heap.size ≤ ·) m (.slice au m.length cu) w2 ∧ Tr.Bs (w.heap.size ≤ ·) m (.slice au1 m.length cu1) w2) := ⟨⟨au, cu, rfl, hcu, hru⟩, ⟨au1, cu1, rfl, hcu1, hru1⟩⟩
  have HC : Hid (n ≤ cap2) := hcap
  have B2 : Hid (Below w.heap.size w w2) := B1.out.trans (b2.mono B1.out.size)
  clear ow ar hcap hcu hru hcu1 hru1 b2 B1 RP KK
  go_wp2_with fail
  refine (Mm.cost_any k w2).mono ?_
  rintro e w3 ⟨rfl, b3⟩
  go_wp2_with fail
  refine (kcost_any k w3).mono ?_
  rintro e w4 ⟨rfl, b4⟩
  have b24 : Below w2.heap.size w2 w4 := b3.trans (b4.mono b3.size)
  have HA4 : Hid (AR (an l) n ao2 w4 ∧ AR (an l) n (some ⟨ga, 0, none⟩) w4) := ⟨AR_below HA.out.1 b24, AR_below HA.out.2 b24⟩
  have HB4 : Hid (Tr.Bs (w1.heap.size ≤ ·) m (.slice au m.length cu) w4 ∧ Tr.Bs (w.heap.size ≤ ·) m (.slice au1 m.length cu1) w4) := ⟨Mm.Bs_below HB.out.1 b24, Mm.Bs_below HB.out.2 b24⟩
  have B4 : Hid (Below w.heap.size w w4) := B2.out.trans (b24.mono B2.out.size)
  clear b3 b4 b24 HA HB B2
  have ec : (cst k == cst k) = true := beq_self_eq_true _
  go_wp2_with fail
  refine (eqma_any (an l) n (some ⟨ga, 0, none⟩) ao2 n cap2 w4 hz (Nat.le_refl _) HC.out HA4.out.2 HA4.out.1).mono ?_
  rintro e w5 ⟨rfl, b5⟩
  have B5 : Hid (Below w.heap.size w w5) := B4.out.trans (b5.mono B4.out.size)
  have cv1 := Pk.Sl_conv (Tr.Bs_sl (Mm.Bs_below HB4.out.1 b5))
  have cv2 := Pk.Sl_conv (Tr.Bs_sl (Mm.Bs_below HB4.out.2 b5))
  clear b5 B4 HA4 HB4
  go_wp2_with fail
  go_ret
  exact ⟨rfl, B5.out⟩
theorem law_plays (k : Int) (l : List Mo) (hl : ∀ j, j < l.length → Wf (l.getD j no)) (hz : l.length ≤ 1048576) (v : Value) (w : World) (hm : Mr (· < w.heap.size) l v w) :
    Calls Try.prog 3 #[.int .i64 k, v] w fun e w' => e = .returned (.bool true) ∧ Below w.heap.size w w' := by
  have hm2 := hm
  obtain ⟨ds, ao, cap, _, rfl, _, _⟩ := hm2
  exact law_plays_walk k l hl ao l.length cap w rfl hz hm
end Kp
end Go.Proofs.Ytpgjgehkomoobaa
