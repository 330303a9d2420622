/- lampbearerkeep.CodeData. -/
import Derived.Test.YtmlddefoehgofaaDoorPackD
namespace Go.Proofs.YtmlddefoehgofaaDoor
namespace Cd
open Go.RowKit Go.Maps
theorem lawI : Keyed Tryd.prog 3 := int_keyed Tryd.underlying3
theorem zeroI (w : World) : (zeroValue 3).run Tryd.prog w = .ok (.int .i64 0) w := by kernel_rfl
theorem At_gap {c : List UInt8} {i : Nat} (h : At c i) (hi : i < c.length) : ∀ j, i < j → j < nx c i → (Cd.st c j).2 ≠ 0 := by
  intro j h1 h2
  have h0 : (Cd.st c i).2 = 0 := by
    rcases h.2 with h | h
    · exact h
    · omega
  obtain ⟨_, _, e⟩ := nx_in c i hi
  rw [e] at h2
  have e1 := st_op h0
  have k := st_skip c (i + 1) (j - i - 1) (by rw [e1]; show j - i - 1 ≤ psh _; omega)
  rw [show i + 1 + (j - i - 1) = j by omega, e1] at k
  rw [k]
  show psh (Sp.bz c i) - (j - i - 1) ≠ 0
  omega
theorem At_op {c : List UInt8} {i : Nat} (h : At c i) (hi : i < c.length) : (Cd.st c i).2 = 0 := by
  rcases h.2 with h | h
  · exact h
  · omega
/-- Which places are seen, as a map reads. -/
def Sq (c : List UInt8) (D : DataW Unit) (i : Nat) : Prop := ∀ j : Nat, D.atKey (.int .i64 (j : Int)) (.lit (.int .i64 0)) = .lit (.int .i64 (if j < i ∧ (Cd.st c j).2 = 0 then 1 else 0))
theorem Sq_0 (c : List UInt8) : Sq c (.map []) 0 := fun j => by
  rw [if_neg (fun h => absurd h.1 (Nat.not_lt_zero _))]
  rfl
theorem KLi (a : Int) : WideAt.IsKeyLit (.int .i64 a) := trivial
theorem wfI (j : Nat) (h : j ≤ 4194304) : (Lit.int .i64 (j : Int)).wf = true := WalkArith.wf_i64 ⟨by omega, by omega⟩
theorem Sq_next {c : List UInt8} {D : DataW Unit} {i : Nat} (h : Sq c D i) (hD : IsMap D) (hat : At c i) (hi : i < c.length) : Sq c (D.put (.int .i64 (i : Int)) (.lit (.int .i64 1))) (nx c i) := fun j => by
  obtain ⟨h1, h2, _⟩ := nx_in c i hi
  by_cases e : j = i
  · subst e
    rw [Maps.atKey_put_same hD (KLi _), if_pos ⟨h1, At_op hat hi⟩]
  · rw [Maps.atKey_put_other (by intro q; injection q with _ q; omega), h j]
    congr 2
    by_cases k : j < i
    · by_cases z : (Cd.st c j).2 = 0
      · rw [if_pos ⟨k, z⟩, if_pos ⟨by omega, z⟩]
      · rw [if_neg (fun q => z q.2), if_neg (fun q => z q.2)]
    · rw [if_neg (fun q => k q.1), if_neg (fun q => At_gap hat hi j (by omega) q.1 q.2)]
theorem st_all (c : List UInt8) : ∀ i, (∀ p, p ∈ (Cd.st c i).1 → p < i ∧ Sp.bz c p = 91 ∧ (Cd.st c p).2 = 0) ∧ (Cd.st c i).1.Pairwise (· < ·)
  | 0 => ⟨fun p h => (by cases h), List.Pairwise.nil⟩
  | i + 1 => by
    obtain ⟨h1, h2⟩ := st_all c i
    have h1' : ∀ p, p ∈ (Cd.st c i).1 → p < i + 1 ∧ Sp.bz c p = 91 ∧ (Cd.st c p).2 = 0 := fun p hp => ⟨by have := (h1 p hp).1; omega, (h1 p hp).2⟩
    by_cases h0 : (Cd.st c i).2 = 0
    · rw [st_op h0]
      dsimp only
      by_cases hb : Sp.bz c i = 91
      · rw [if_pos hb]
        refine ⟨fun p hp => ?_, List.pairwise_append.2 ⟨h2, List.pairwise_singleton _ _, fun a ha b hb => ?_⟩⟩
        · rcases List.mem_append.1 hp with hp | hp
          · exact h1' p hp
          · obtain rfl := List.mem_singleton.1 hp
            exact ⟨Nat.lt_succ_self _, hb, h0⟩
        · obtain rfl := List.mem_singleton.1 hb
          exact (h1 a ha).1
      · rw [if_neg hb]
        exact ⟨h1', h2⟩
    · rw [st_push h0]
      exact ⟨h1', h2⟩
theorem st_cnt (c : List UInt8) (i : Nat) : (Cd.st c (i + 1)).1.length = (Cd.st c i).1.length + (if (Cd.st c i).2 = 0 ∧ Sp.bz c i = 91 then 1 else 0) := by
  by_cases h0 : (Cd.st c i).2 = 0
  · rw [st_op h0]
    dsimp only
    by_cases hb : Sp.bz c i = 91
    · rw [if_pos hb, if_pos ⟨h0, hb⟩]; simp
    · rw [if_neg hb, if_neg (fun h => hb h.2)]; rfl
  · rw [st_push h0, if_neg (fun h => h0 h.1)]; rfl
/-- The map of places in memory. -/
def Pm (c : List UInt8) (b i : Nat) (w : World) : Prop := ∃ D : DataW Unit, w.ownsMap Tryd.prog 3 (plainElem (H := Unit) Tryd.prog 3) b i D ∧ Sq c D i
theorem Pm_below {c : List UInt8} {b i : Nat} {w w' : World} (h : Pm c b i w) (hb : Below w.heap.size w w') : Pm c b i w' := by
  obtain ⟨D, h1, h2⟩ := h
  exact ⟨D, h1.kept (⟨hb.os, hb.tape, hb.output, hb.size, fun j hj _ => hb.block j hj⟩ : w.grownBy w' none) (by simp), h2⟩
set_option maxRecDepth 10000 in
theorem Pm_look {c : List UInt8} {b i : Nat} {w : World} (h : Pm c b i w) (j : Nat) (hj : j ≤ 4194304) : (Instr.lookup 35 (.map (some b)) (.int .i64 (j : Int)) false).run Tryd.prog w = .ok (.int .i64 (if j < i ∧ (Cd.st c j).2 = 0 then 1 else 0)) w := by
  obtain ⟨D, h1, h2⟩ := h
  obtain ⟨k, hrun, hat, _⟩ := h1.lookup_int lawI Tryd.underlying35 Tryd.underlying3 (zeroI w) (keyOf_int_mk Tryd.underlying3 (a := (j : Int)) (q := .i64) (wfI j hj))
  have e := h2 j
  rw [hat] at e
  injection e with e
  injection e with _ e
  rw [← e]
  exact hrun
set_option maxHeartbeats 4000000 in
set_option maxRecDepth 100000 in
theorem law_cdata (c : List UInt8) (n : Nat) (hn : Hid (n = c.length)) (hz : Hid (n ≤ 1048576)) (ao : Option Addr) (cap : Nat) (w : World) (hv : Hid (Sp.Vw c ao w)) : Calls Tryd.prog 7 #[.slice ao n cap] w fun e w' => e = .returned (.bool true) ∧ Below w.heap.size w w' := by
  have KA : Hid (Calls Tryd.prog 15 #[] w fun e w' => e = .returned (.bool true) ∧ Below w.heap.size w w') := alive12_any w
  have KN : Hid (∀ (i : Nat) (W : World), Below w.heap.size w W → Calls Tryd.prog 16 #[.slice ao n cap, .int .i64 (i : Int)] W fun e w' => e = .returned (.int .i64 (nx c i : Int)) ∧ Below W.heap.size W w') := fun i W hb => next_any c n hn (by show _ ≤ _; have := hz.out; omega) ao cap i W (Sp.Vw_below hv.out hb)
  have KL : Hid (∀ W : World, Below w.heap.size w W → Calls Tryd.prog 17 #[.slice ao n cap] W fun e w' => ∃ v, e = .returned v ∧ Ri W.heap.size (Cd.st c n).1 v w' ∧ Below W.heap.size W w') := fun W hb => landings_any c n hn hz ao cap W (Sp.Vw_below hv.out hb)
  have hmm := @run_makeMap Tryd.prog
  go_enter Tryd.func7, Tryd.ntmps7
  go_wp2_with fail
  refine KA.out.mono ?_
  rintro e w1 ⟨rfl, b1⟩
  have B1 : Hid (Below w.heap.size w w1) := b1
  clear b1 KA
  go_wp2_with fail
  obtain ⟨bm, hbm⟩ : ∃ bm, Hid (bm = w1.heap.size) := ⟨_, rfl⟩
  rw [← hbm.out]
  have M0 : Hid (Pm c bm 0 (w1.alloc (.map #[] 0)) ∧ Below w.heap.size w (w1.alloc (.map #[] 0)) ∧ w.heap.size ≤ bm) := ⟨⟨.map [], by rw [hbm.out]; exact World.ownsMap_made _ _ _ _, Sq_0 c⟩, B1.out.trans (((Below.refl _ _).alloc (Nat.le_refl _) _).mono B1.out.size), by rw [hbm.out]; exact B1.out.size⟩
  generalize w1.alloc (.map #[] 0) = W0 at M0 ⊢
  clear hmm B1 hbm
  go_loopw [4] (fun p wr => ∃ i : Nat, At c i ∧ p = .int .i64 (i : Int) ∧ Pm c bm i wr ∧ Below w.heap.size w wr) (fun p _ => ((n : Int) - intOf p).toNat)
  case atStart => exact ⟨0, At_0 c, rfl, M0.out.1, M0.out.2.1⟩
  case round =>
    obtain ⟨i, hat, rfl, hm, hb⟩ := hrel
    by_cases hlt : i < n
    · have d1 : (i : Int) < (n : Int) := by omega
      have hic : i < c.length := by rw [← hn.out]; exact hlt
      obtain ⟨a1, a2, _⟩ := At_next hat hic
      obtain ⟨_, a4, _⟩ := nx_in c i hic
      have KNi := KN.out i
      obtain ⟨q, hq⟩ : ∃ q : Nat, Hid (q = nx c i) := ⟨_, rfl⟩
      rw [← hq.out] at KNi a1 a2 a4
      have KNi : Hid (∀ W : World, Below w.heap.size w W → Calls Tryd.prog 16 #[.slice ao n cap, .int .i64 (i : Int)] W fun e w' => e = .returned (.int .i64 (q : Int)) ∧ Below W.heap.size W w') := KNi
      have A1 : Hid (At c q ∧ i < q) := ⟨a1, a2⟩
      have HA : Hid (At c i) := hat
      have HM : Hid (Pm c bm i wr) := hm
      have HB : Hid (Below w.heap.size w wr) := hb
      have n1 : ¬ (q : Int) ≤ (i : Int) := by omega
      have n2 : ¬ (n : Int) < (q : Int) := by rw [hn.out]; omega
      have n1' : ¬ q ≤ i := by omega
      have n2' : ¬ n < q := by rw [hn.out]; omega
      clear hm hb hat a1 a2 a4
      go_wp2_with fail
      refine (KNi.out wr HB.out).mono ?_
      rintro e w2 ⟨rfl, b2⟩
      have M2 : Hid (Pm c bm i w2) := Pm_below HM.out b2
      have B2 : Hid (Below w.heap.size w w2) := HB.out.trans (b2.mono HB.out.size)
      clear b2 HM HB
      obtain ⟨D, o2, sq⟩ := M2.out
      have SQ : Hid (Sq c D i ∧ IsMap D) := ⟨sq, o2.isMap⟩
      have hkey : keyOf Tryd.prog 3 (.int .i64 (i : Int)) = some (.int .i64 (i : Int)) := keyOf_int_mk Tryd.underlying3 (wfI i (by have := hz.out; omega))
      clear sq M2
      go_wp2_with (at_mapUpdate; refine wpList_mapUpdate_own _ rfl _ _ _ 35 rfl 3 3 lawI Tryd.underlying35 _ bm i _ rfl o2 (by have := hz.out; unfold maxLen; omega) _ _ _ rfl rfl hkey _ [] (plainElem_int Tryd.underlying3 (wfI 1 (by decide))) ?_; intro w3 o3 g3)
      have M3 : Hid (Pm c bm q w3) := ⟨_, o3.mono A1.out.2, by
        have := Sq_next SQ.out.1 SQ.out.2 HA.out hic
        rw [← hq.out] at this
        exact this⟩
      have B3 : Hid (Below w.heap.size w w3) := B2.out.grown g3 B2.out.size (fun j hj => by cases hj; exact M0.out.2.2)
      clear o3 g3 o2 SQ B2 hkey
      go_wp2_with fail
      refine (KNi.out w3 B3.out).mono ?_
      rintro e w4 ⟨rfl, b4⟩
      have M4 : Hid (Pm c bm q w4) := Pm_below M3.out b4
      have B4 : Hid (Below w.heap.size w w4) := B3.out.trans (b4.mono B3.out.size)
      clear b4 M3 B3
      go_wp2_with fail
      go_roundw
      case rel => exact ⟨q, A1.out.1, rfl, M4.out, B4.out⟩
      case measure => exact stmI i n _ hlt A1.out.2
    · have ek : i = n := by have := hat.1; have := hn.out; omega
      subst ek
      have HM : Hid (Pm c bm i wr) := hm
      have HB : Hid (Below w.heap.size w wr) := hb
      have d0 : ¬ (i : Int) < (i : Int) := by omega
      clear hm hb hat
      go_wp2_with fail
      refine (KL.out wr HB.out).mono ?_
      rintro e w2 ⟨v, rfl, r2, b2⟩
      have M2 : Hid (Pm c bm i w2) := Pm_below HM.out b2
      have B2 : Hid (Below w.heap.size w w2) := HB.out.trans (b2.mono HB.out.size)
      obtain ⟨m, hm⟩ : ∃ m, Hid (m = (Cd.st c i).1.length) := ⟨_, rfl⟩
      obtain ⟨la, lc, e⟩ := Ri_form r2
      rw [← hm.out] at e
      subst e
      have R2 : Hid (∃ B, Ri B (Cd.st c i).1 (.slice la m lc) w2) := ⟨_, r2⟩
      clear r2 b2 HM HB KL KN
      have HM : Hid (m = (Cd.st c i).1.length) := hm
      clear hm
      go_wp2_with fail
      go_loopw [7, 40] (fun v p w3 => ∃ j : Nat, j ≤ i ∧ p = .int .i64 (j : Int) ∧ v = .int .i64 ((Cd.st c j).1.length : Int) ∧ Below w2.heap.size w2 w3) (fun _ p _ => ((i : Int) - intOf p).toNat)
      case atStart => exact ⟨0, Nat.zero_le _, rfl, rfl, Below.refl _ _⟩
      case round =>
        obtain ⟨j, hj, rfl, rfl, hb3⟩ := hrel
        by_cases hlt3 : j < i
        · have d1 : (j : Int) < (i : Int) := by omega
          have d2 : (0 : Int) ≤ (j : Int) := by omega
          have hjc : j < c.length := by rw [← hn.out]; exact hlt3
          obtain ⟨g, off, rfl, hg, hc⟩ := (Sp.Vw_below hv.out B2.out) (by omega)
          have ck := (hb3.cell (p := ⟨g, off + j, none⟩) hg).trans (hc j hjc)
          have hlk := Pm_look (Pm_below M2.out hb3) j (by have := hz.out; omega)
          have hcnt := st_cnt c j
          have hle := st_le c j
          obtain ⟨k, hk⟩ : ∃ k, Hid (k = (Cd.st c j).1.length) := ⟨_, rfl⟩
          rw [← hk.out] at hcnt hle ⊢
          have hw := stwI j i hlt3 (by have := hz.out; omega)
          have hm2 := stmW j i hlt3 (by have := hz.out; omega)
          have hw2 : Hid (wrap64 ((k : Int) + 1) = (k : Int) + 1) := by show _ = _; have := hz.out; unfold wrap64; omega
          have HB3 : Hid (Below w2.heap.size w2 _) := hb3
          clear hb3 hc hg hk hle
          by_cases hx : Sp.bz c j = 91
          · rw [hx] at ck
            by_cases h0 : (Cd.st c j).2 = 0
            · rw [if_pos ⟨hlt3, h0⟩] at hlk
              rw [if_pos ⟨h0, hx⟩] at hcnt
              have HC : Hid _ := hcnt
              clear hcnt h0 hx
              go_wp2_with fail
              go_roundw
              case rel => exact ⟨j + 1, hlt3, by rw [hw.out]; rfl, by rw [hw2.out, HC.out]; rfl, HB3.out⟩
              case measure => exact hm2.out
            · rw [if_neg (fun q => h0 q.2)] at hlk
              rw [if_neg (fun q => h0 q.1)] at hcnt
              have HC : Hid _ := hcnt
              clear hcnt h0 hx
              go_wp2_with fail
              go_roundw
              case rel => exact ⟨j + 1, hlt3, by rw [hw.out]; rfl, by rw [HC.out]; rfl, HB3.out⟩
              case measure => exact hm2.out
          · rw [if_neg (fun q => hx q.2)] at hcnt
            have HC : Hid _ := hcnt
            have hx2 : (Sp.bz c j == 91) = false := by rw [beq_eq_false_iff_ne]; exact hx
            clear hcnt hlk
            generalize Sp.bz c j = X at *
            go_wp2_with fail
            go_roundw
            case rel => exact ⟨j + 1, hlt3, by rw [hw.out]; rfl, by rw [HC.out]; rfl, HB3.out⟩
            case measure => exact hm2.out
        · obtain rfl : j = i := by omega
          rw [← HM.out]
          have HB3 : Hid (Below w2.heap.size w2 _) := hb3
          clear hb3
          go_wp2_with fail
          obtain ⟨L, hL⟩ : ∃ L, Hid (L = (Cd.st c j).1) := ⟨_, rfl⟩
          obtain ⟨q1, q2⟩ := st_all c j
          rw [← hL.out] at q1 q2
          have Q1 : Hid (∀ p, p ∈ L → p < j ∧ Sp.bz c p = 91 ∧ (Cd.st c p).2 = 0) := q1
          have Q2 : Hid (L.Pairwise (· < ·)) := q2
          have R2 : Hid (∃ B, Ri B L (.slice la m lc) w2) := by rw [hL.out]; exact R2.out
          have HM : Hid (m = L.length) := by rw [hL.out]; exact HM.out
          have HLE : Hid (m ≤ j) := by show _ ≤ _; rw [HM.out, hL.out]; exact st_le c j
          clear q1 q2 hL
          go_loopw [58] (fun p w4 => ∃ k : Nat, k ≤ m ∧ p = .int .i64 (k : Int) ∧ Below w2.heap.size w2 w4) (fun p _ => ((m : Int) - intOf p).toNat)
          case atStart => exact ⟨0, Nat.zero_le _, rfl, HB3.out⟩
          case round =>
            obtain ⟨k, hk, rfl, hb4⟩ := hrel
            by_cases hlt4 : k < m
            · have d1 : (k : Int) < (m : Int) := by omega
              have d2 : (0 : Int) ≤ (k : Int) := by omega
              have hkl : k < L.length := by rw [← HM.out]; exact hlt4
              obtain ⟨_, rr⟩ := R2.out
              obtain ⟨g2, rfl, hg2, hc2⟩ := Ri_at rr (by omega)
              clear rr
              obtain ⟨p, hp⟩ : ∃ p, Hid (p = L.getD k 0) := ⟨_, rfl⟩
              have hpm : p ∈ L := by
                rw [hp.out, List.getD_eq_getElem?_getD, List.getElem?_eq_getElem hkl]
                exact List.getElem_mem hkl
              obtain ⟨p1, p2, p3⟩ := Q1.out p hpm
              have hm1 : m ≤ 1048576 := by have := HLE.out; have := hz.out; omega
              have hpc : p < c.length := by rw [← hn.out]; exact p1
              obtain ⟨g, off, rfl, hg, hc⟩ := (Sp.Vw_below hv.out B2.out) (by omega)
              have ck1 := (hb4.cell (p := ⟨g2, k, none⟩) hg2).trans (hc2 k hkl)
              rw [← hp.out] at ck1
              have ck2 := (hb4.cell (p := ⟨g, off + p, none⟩) hg).trans (hc p hpc)
              rw [p2] at ck2
              have hlk := Pm_look (Pm_below M2.out hb4) p (by have := hz.out; omega)
              rw [if_pos ⟨p1, p3⟩] at hlk
              have hw := stwI k m hlt4 (by omega)
              have hm2 := stmW k m hlt4 (by omega)
              have f1 : ¬ (p : Int) < 0 := by omega
              have f2 : ¬ (j : Int) ≤ (p : Int) := by omega
              have f2' : ¬ j ≤ p := by omega
              have f0 : (0 : Int) ≤ (p : Int) := by omega
              have f4 : (p : Int) < (j : Int) := by omega
              have HB4 : Hid (Below w2.heap.size w2 _) := hb4
              by_cases hk0 : k = 0
              · subst hk0
                clear hb4 hc hg hc2 hg2 hpm p1 p2 p3 hpc
                go_wp2_with fail
                go_roundw
                case rel => exact ⟨1, by omega, by first | rfl | (rw [hw.out]; rfl), HB4.out⟩
                case measure =>
                  show ((m : Int) - 1).toNat < ((m : Int) - ((0 : Nat) : Int)).toNat
                  omega
              · obtain ⟨r, hr⟩ : ∃ r, k = r + 1 := ⟨k - 1, by omega⟩
                obtain ⟨p0, hp0⟩ : ∃ p0, Hid (p0 = L.getD r 0) := ⟨_, rfl⟩
                have hrl : r < L.length := by omega
                have ck3 := (hb4.cell (p := ⟨g2, r, none⟩) hg2).trans (hc2 r hrl)
                rw [← hp0.out, show r = k - 1 by omega] at ck3
                have hpp : p0 < p := by
                  have := List.pairwise_iff_getElem.1 Q2.out r k hrl hkl (by omega)
                  rw [hp0.out, hp.out, List.getD_eq_getElem?_getD, List.getD_eq_getElem?_getD, List.getElem?_eq_getElem hrl, List.getElem?_eq_getElem hkl]
                  exact this
                have f3 : ¬ (p : Int) ≤ (p0 : Int) := by omega
                have f3' : ¬ p ≤ p0 := by omega
                have g1 : (0 : Int) < (k : Int) := by omega
                have g1' : 0 < k := by omega
                have g2' : wrap64 ((k : Int) - 1) = (r : Int) := by unfold wrap64; omega
                have g3 : (r : Int) < (m : Int) := by omega
                have g4 : (0 : Int) ≤ (r : Int) := by omega
                have HS : Hid (k ≤ m ∧ k < m) := ⟨hk, hlt4⟩
                clear hb4 hc hg hc2 hg2 hpm p1 p2 p3 hpc hkl hrl hpp hp hp0 hr hk0
                go_wp2_with fail
                go_roundw
                case rel => exact ⟨k + 1, HS.out.2, by first | rfl | (rw [hw.out]; rfl), HB4.out⟩
                case measure =>
                  first
                    | exact hm2.out
                    | (show ((m : Int) - ((k : Int) + 1)).toNat < ((m : Int) - (k : Int)).toNat
                       omega)
            · obtain rfl : k = m := by omega
              have BF : Hid (Below w.heap.size w _) := B2.out.trans (hb4.mono B2.out.size)
              clear hb4
              go_wp2_with fail
              go_ret
              exact ⟨rfl, BF.out⟩
end Cd
end Go.Proofs.YtmlddefoehgofaaDoor
