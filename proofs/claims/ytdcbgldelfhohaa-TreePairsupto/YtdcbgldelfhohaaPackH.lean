/- What many puts come to. -/
import Derived.Test.YtdcbgldelfhohaaPackF
import Derived.Test.YtdcbgldelfhohaaPackG
import Derived.Test.YtdcbgldelfhohaaPackE
namespace Go.Proofs.Ytdcbgldelfhohaa
namespace Tr
open Nb Go.RowKit
/-- The first error of many puts. -/
def oe : Rt → Int
  | [] => 0
  | r :: l => if mp r.1.length r.2.length = 0 then oe l else mp r.1.length r.2.length
/-- What is at a path behind many puts. -/
def vl (l : Rt) : By → By := l.foldl (fun f r q => if q = hv r.1 then r.2 else f q) (fun _ => [])
/-- What Of answers. -/
def OR (l : Rt) (r : Nd) : Prop := if oe l = 0 then ∃ t', r = bn t' ∧ Rs t' ∧ ∀ q, gt t' q = vl l q else r = Nd.no
theorem vl_snoc (l : Rt) (r : By × By) (q : By) : vl (l ++ [r]) q = if q = hv r.1 then r.2 else vl l q := by
  unfold vl
  rw [List.foldl_append]
  rfl
theorem vl_in (l : Rt) : ∀ q, vl l q ≠ [] → ∃ r ∈ l, q = hv r.1 ∧ vl l q = r.2 := by
  have h : ∀ m (f : By → By) q, (m.foldl (fun f r q => if q = hv r.1 then r.2 else f q) f) q = f q ∨ ∃ r ∈ (m : Rt), q = hv r.1 ∧ (m.foldl (fun f r q => if q = hv r.1 then r.2 else f q) f) q = r.2 := by
    intro m
    induction m with
    | nil => intro f q; exact .inl rfl
    | cons a m ih =>
      intro f q
      rw [List.foldl_cons]
      rcases ih (fun q => if q = hv a.1 then a.2 else f q) q with h | ⟨r, h1, h2, h3⟩
      · by_cases e : q = hv a.1
        · exact .inr ⟨a, List.mem_cons_self .., e, by rw [h, if_pos e]⟩
        · exact .inl (by rw [h, if_neg e])
      · exact .inr ⟨r, List.mem_cons_of_mem _ h1, h2, h3⟩
  intro q hq
  rcases h l (fun _ => []) q with h | h
  · exact absurd h hq
  · exact h
theorem oe_zero : ∀ l : Rt, (∀ r ∈ l, mp r.1.length r.2.length = 0) → oe l = 0
  | [], _ => rfl
  | r :: l, h => by
    rw [oe, if_pos (h r (List.mem_cons_self ..))]
    exact oe_zero l (fun x hx => h x (List.mem_cons_of_mem _ hx))
theorem oe_zero' : ∀ l : Rt, oe l = 0 → ∀ r ∈ l, mp r.1.length r.2.length = 0
  | a :: l, h, r, hr => by
    rw [oe] at h
    split at h
    · rcases List.mem_cons.1 hr with rfl | hr
      · assumption
      · exact oe_zero' l h r hr
    · exact absurd h (by assumption)
/-- The first one that fails tells. -/
theorem oe_at : ∀ (l : Rt) (k : Nat), k < l.length → (∀ r ∈ l.take k, mp r.1.length r.2.length = 0) → mp (l.getD k n2).1.length (l.getD k n2).2.length ≠ 0 → oe l = mp (l.getD k n2).1.length (l.getD k n2).2.length
  | a :: l, 0, _, _, h => by rw [List.getD_cons_zero] at *; rw [oe, if_neg h]
  | a :: l, k + 1, hk, hz, h => by
    rw [List.getD_cons_succ] at *
    rw [oe, if_pos (hz a (by simp))]
    exact oe_at l k (by simpa using hk) (fun r hr => hz r (by simp [hr])) h
theorem take_snoc (l : Rt) (k : Nat) (h : k < l.length) : l.take (k + 1) = l.take k ++ [l.getD k n2] := by
  rw [List.take_add_one, List.getElem?_eq_getElem h, List.getD_eq_getElem?_getD, List.getElem?_eq_getElem h]
  rfl
theorem vl_ln {l : Rt} (h : ∀ r ∈ l, mp r.1.length r.2.length = 0) : (∀ q, vl l q ≠ [] → q.length ≤ 64) ∧ ∀ q, (vl l q).length ≤ 1024 := by
  refine ⟨fun q hq => ?_, fun q => ?_⟩
  · obtain ⟨r, h1, h2, _⟩ := vl_in l q hq
    have := (mp_zero (h r h1)).1
    rw [h2, hv_len]; omega
  · by_cases hq : vl l q = []
    · rw [hq]; exact Nat.zero_le _
    · obtain ⟨r, h1, _, h3⟩ := vl_in l q hq
      rw [h3]
      exact (mp_zero (h r h1)).2
end Tr
end Go.Proofs.Ytdcbgldelfhohaa
/- lampbearerref.GPairs; both sides at every argument. -/
namespace Go.Proofs.Ytdcbgldelfhohaa
namespace Tr
open Nb Go.RowKit
theorem wpList_ap {ops : Array Oper} {rest : List Oper} {o : Oper} {a : Act} {Q : Exit → Act → World → Prop} {s x : Operand} {t u : TypeId} {v v2 v' : Value} {w w' : World} (hgd : o.guard = none) (ho : o.op = .call { callee := .builtin .append, args := #[s, x], argTypes := #[t, u] }) (hs : a.eval s = v) (hx : a.eval x = v2)
    (hr : (Builtin.append_ #[t, u] o.type #[v, v2]).run Try.prog w = .ok v' w') (h : wpList Try.prog ops Q rest (a.put o.dst v') w') : wpList Try.prog ops Q (o :: rest) a w :=
  wpList_plain hgd fun _ hK => wp_ap ho hs hx hr (hK _ _ h)
theorem njoin_bs {p : By} {pv : Value} {w : World} (hp : Pk.Sl p pv w) (hl : p.length ≤ 64) (hj : JF p) : Calls Try.prog 36 #[pv] w fun e w' => ∃ a n c, e = .returned (.tuple #[.slice a n c, .int .i64 0]) ∧ Bs (w.heap.size ≤ ·) (jn p) (.slice a n c) w' ∧ Below w.heap.size w w' := by
  obtain ⟨ao, cap, h1, hc, vw⟩ := hp
  subst h1
  refine (njoin_any p ao cap w (by show _ ≤ _; omega) hc vw).mono fun e w' he => ?_
  obtain ⟨h1 | h1, h3⟩ := he
  · obtain ⟨_, v, h1, h2⟩ := h1
    obtain ⟨⟨a, c, rfl⟩, h4⟩ := own_bs2 h2
    exact ⟨a, _, c, h1, h4, h3⟩
  · exact absurd hj h1.1
set_option maxHeartbeats 4000000 in
set_option maxRecDepth 100000 in
theorem gpr_form (k : Int) (a1 a2 a3 : Option Addr) (n1 c1 m2 c2 n3 c3 : Nat) (w : World) (KG0 : ∀ wx : World, Below w.heap.size w wx → Calls Try.prog 10 #[.agg #[.int .i64 k, .slice a1 n1 c1, .slice a2 m2 c2, .slice a3 n3 c3]] wx fun e w' => e = .returned (.bool false) ∧ Below wx.heap.size wx w') :
    Calls Try.prog 17 #[.agg #[.int .i64 k, .slice a1 n1 c1, .slice a2 m2 c2, .slice a3 n3 c3]] w fun e w' => e = .returned (.tuple #[.slice none 0 0, .int .i64 1]) ∧ Below w.heap.size w w' := by
  have HB : Below w.heap.size w (w.alloc (.cells #[.int .i64 k, .slice a1 n1 c1, .slice a2 m2 c2, .slice a3 n3 c3] 25)) := (Below.refl _ _).alloc (Nat.le_refl _) _
  obtain ⟨_, q0, q1, q2, q3⟩ := Bx_new w (.int .i64 k, .slice a1 n1 c1, .slice a2 m2 c2, .slice a3 n3 c3)
  dsimp only at q0 q1 q2 q3
  have HBB : Hid (Below w.heap.size w (w.alloc (.cells #[.int .i64 k, .slice a1 n1 c1, .slice a2 m2 c2, .slice a3 n3 c3] 25))) := HB
  have hh' : w.heap.size < (w.alloc (.cells #[.int .i64 k, .slice a1 n1 c1, .slice a2 m2 c2, .slice a3 n3 c3] 25)).heap.size := by simp
  have KG : Hid (Calls Try.prog 10 #[.agg #[.int .i64 k, .slice a1 n1 c1, .slice a2 m2 c2, .slice a3 n3 c3]] (w.alloc (.cells #[.int .i64 k, .slice a1 n1 c1, .slice a2 m2 c2, .slice a3 n3 c3] 25)) fun e w' => e = .returned (.bool false) ∧ Below (w.alloc (.cells #[.int .i64 k, .slice a1 n1 c1, .slice a2 m2 c2, .slice a3 n3 c3] 25)).heap.size (w.alloc (.cells #[.int .i64 k, .slice a1 n1 c1, .slice a2 m2 c2, .slice a3 n3 c3] 25)) w') := KG0 _ HB
  clear KG0 HB
  go_enter Try.func17, Try.ntmps17
  go_wp2_with fail
  refine KG.out.mono ?_
  rintro e w1 ⟨rfl, hb1⟩
  have HZ : Hid (Below w.heap.size w w1) := HBB.out.trans (hb1.mono HBB.out.size)
  clear hb1 q0 q1 q2 q3
  go_wp2_with fail
  go_ret2
  exact ⟨rfl, HZ.out⟩
/-- What stands behind k rounds of GPairs. -/
structure GQ (l : Rt) (W0 : World) (k : Nat) (ov : Value) (wr : World) : Prop where
  o : Po W0.heap.size ((l.take k).map jp) ov wr
  b : Below W0.heap.size W0 wr
set_option maxHeartbeats 4000000 in
set_option maxRecDepth 100000 in
theorem gpr_value (k : Int) (a1 a2 a3 : Option Addr) (n1 c1 m2 c2 n3 c3 : Nat) (w : World) (KG0 : ∀ wx : World, Below w.heap.size w wx → Calls Try.prog 10 #[.agg #[.int .i64 k, .slice a1 n1 c1, .slice a2 m2 c2, .slice a3 n3 c3]] wx fun e w' => e = .returned (.bool true) ∧ Below wx.heap.size wx w') (l : Rt) (HL : Hid (l.length ≤ 1048576)) (HOK : Hid (∀ r ∈ l, JF r.1 ∧ r.1.length ≤ 64 ∧ r.2.length ≤ 1024))
    (KR0 : ∀ wx : World, Below w.heap.size w wx → Calls Try.prog 23 #[.agg #[.int .i64 k, .slice a1 n1 c1, .slice a2 m2 c2, .slice a3 n3 c3], .string ⟨#[]⟩] wx fun e w' => ∃ la n lc, e = .returned (.tuple #[.slice la n lc, .bool true]) ∧ (n = l.length ∧ Rv l (.slice la n lc) w') ∧ Below wx.heap.size wx w') :
    Calls Try.prog 17 #[.agg #[.int .i64 k, .slice a1 n1 c1, .slice a2 m2 c2, .slice a3 n3 c3]] w fun e w' => ∃ v, e = .returned (.tuple #[v, .int .i64 0]) ∧ Pv (w.heap.size ≤ ·) (l.map jp) v w' ∧ Below w.heap.size w w' := by
  have HB : Below w.heap.size w (w.alloc (.cells #[.int .i64 k, .slice a1 n1 c1, .slice a2 m2 c2, .slice a3 n3 c3] 25)) := (Below.refl _ _).alloc (Nat.le_refl _) _
  obtain ⟨_, q0, q1, q2, q3⟩ := Bx_new w (.int .i64 k, .slice a1 n1 c1, .slice a2 m2 c2, .slice a3 n3 c3)
  dsimp only at q0 q1 q2 q3
  have HBB : Hid (Below w.heap.size w (w.alloc (.cells #[.int .i64 k, .slice a1 n1 c1, .slice a2 m2 c2, .slice a3 n3 c3] 25))) := HB
  have hh' : w.heap.size < (w.alloc (.cells #[.int .i64 k, .slice a1 n1 c1, .slice a2 m2 c2, .slice a3 n3 c3] 25)).heap.size := by simp
  have KG : Hid (Calls Try.prog 10 #[.agg #[.int .i64 k, .slice a1 n1 c1, .slice a2 m2 c2, .slice a3 n3 c3]] (w.alloc (.cells #[.int .i64 k, .slice a1 n1 c1, .slice a2 m2 c2, .slice a3 n3 c3] 25)) fun e w' => e = .returned (.bool true) ∧ Below (w.alloc (.cells #[.int .i64 k, .slice a1 n1 c1, .slice a2 m2 c2, .slice a3 n3 c3] 25)).heap.size (w.alloc (.cells #[.int .i64 k, .slice a1 n1 c1, .slice a2 m2 c2, .slice a3 n3 c3] 25)) w') := KG0 _ HB
  have KR1 : Hid (∀ wx : World, Below w.heap.size w wx → Calls Try.prog 23 #[.agg #[.int .i64 k, .slice a1 n1 c1, .slice a2 m2 c2, .slice a3 n3 c3], .string ⟨#[]⟩] wx fun e w' => ∃ la n lc, e = .returned (.tuple #[.slice la n lc, .bool true]) ∧ (n = l.length ∧ Rv l (.slice la n lc) w') ∧ Below wx.heap.size wx w') := KR0
  clear KG0 HB KR0
  go_enter Try.func17, Try.ntmps17
  go_wp2_with fail
  refine KG.out.mono ?_
  rintro e w1 ⟨rfl, hb1⟩
  have HZ : Hid (Below w.heap.size w w1) := HBB.out.trans (hb1.mono HBB.out.size)
  replace q0 := (hb1.cell (p := ⟨w.heap.size, 0, none⟩) hh').trans q0
  replace q1 := (hb1.cell (p := ⟨w.heap.size, 1, none⟩) hh').trans q1
  replace q2 := (hb1.cell (p := ⟨w.heap.size, 2, none⟩) hh').trans q2
  replace q3 := (hb1.cell (p := ⟨w.heap.size, 3, none⟩) hh').trans q3
  clear hb1 hh' KG HBB
  go_wp2_with fail
  refine (KR1.out _ HZ.out).mono ?_
  rintro e W0 ⟨la, n, lc, rfl, hx0, bR⟩
  have hx : Hid (n = l.length ∧ Rv l (.slice la n lc) W0) := hx0
  have BW0 : Hid (Below w.heap.size w W0) := HZ.out.trans (bR.mono HZ.out.size)
  have I0 : Hid (GQ l W0 0 (.slice none 0 0) W0) := ⟨Po_nil _ _, Below.refl _ _⟩
  clear hx0 KR1 bR q0 q1 q2 q3 HZ
  go_wp2_with fail
  go_loopw [6, 21] (fun ov i wr => ∃ j : Nat, j ≤ n ∧ i = .int .i64 (j : Int) ∧ GQ l W0 j ov wr) (fun _ i _ => ((n : Int) - intOf i).toNat)
  case atStart => exact ⟨0, Nat.zero_le _, rfl, I0.out⟩
  case round =>
    obtain ⟨j, hj, rfl, hI⟩ := hrel
    have HI : Hid (GQ l W0 j u6 wr) := hI
    obtain ⟨oa, on, oc, rfl⟩ := Po_form hI.o
    clear hI I0
    by_cases hlt : j < n
    · have d0 : decide ((j : Int) < (n : Int)) = true := decide_eq_true (by omega)
      have d1 : (0 : Int) ≤ (j : Int) := by omega
      have d2 : (j : Int) < (n : Int) := by omega
      have hjl : j < l.length := by have := hx.out.1; omega
      obtain ⟨a', cap', e2, -, hq⟩ := hx.out.2
      obtain ⟨g, off, rfl, hg, hcell⟩ := hq (by omega)
      injection e2 with e2 e2' e2''
      subst e2
      clear e2' e2''
      obtain ⟨x0, x1⟩ := hcell j hjl
      have y0 := (HI.out.b.cell (p := ⟨g, off + 2 * j, none⟩) hg).trans x0
      have y1 := (HI.out.b.cell (p := ⟨g, off + 2 * j + 1, none⟩) hg).trans x1
      rw [Nat.mul_comm 2 j] at y0 y1
      have e5 : Hid (wrap64 ((j : Int) + 1) = ((j + 1 : Nat) : Int)) := by have := hx.out.1; have := HL.out; show _ = _; unfold wrap64; omega
      have hms := msr_up j n hlt
      have HRJ : Hid (l.getD j n2 ∈ l) := by
        show _ ∈ _
        rw [List.getD_eq_getElem?_getD, List.getElem?_eq_getElem hjl]
        exact List.getElem_mem _
      have HTK : Hid ((l.take (j + 1)).map jp = (l.take j).map jp ++ [jp (l.getD j n2)]) := by show _ = _; rw [take_snoc l j hjl, List.map_append]; rfl
      have hok := HOK.out _ HRJ.out
      generalize hR : l.getD j n2 = r at *
      obtain ⟨rp, rv⟩ := r
      dsimp only at *
      have HJF : Hid (JF rp ∧ rp.length ≤ 64 ∧ rv.length ≤ 1024) := hok
      have HHL : Hid (j < 1048576) := by have := hx.out.1; have := HL.out; show _ < _; omega
      obtain ⟨X, hX⟩ : ∃ X, X = Tr.st rp := ⟨_, rfl⟩
      obtain ⟨Y, hY⟩ : ∃ Y, Y = Tr.st rv := ⟨_, rfl⟩
      rw [← hX] at y0
      rw [← hY] at y1
      have HX : Hid (X = Tr.st rp) := hX
      have HY : Hid (Y = Tr.st rv) := hY
      clear hX hY
      have HA := heap_alloc_new wr (.cells #[.string X, .string Y] 51)
      have r0 : (wr.alloc (.cells #[.string X, .string Y] 51)).cell? ⟨wr.heap.size, 0, none⟩ = some (.string X) := by simp only [World.cell?, HA]; rfl
      have r1 : (wr.alloc (.cells #[.string X, .string Y] 51)).cell? ⟨wr.heap.size, 1, none⟩ = some (.string Y) := by simp only [World.cell?, HA]; rfl
      have h9 : wr.heap.size < (wr.alloc (.cells #[.string X, .string Y] 51)).heap.size := by simp
      have bA : Below wr.heap.size wr (wr.alloc (.cells #[.string X, .string Y] 51)) := (Below.refl _ _).alloc (Nat.le_refl _) _
      have hbs := HI.out.b.size
      have HIA : Hid (GQ l W0 j (.slice oa on oc) (wr.alloc (.cells #[.string X, .string Y] 51))) := ⟨Po_keep HI.out.o (fun q _ hq => bA.block q hq) bA.size, HI.out.b.trans (bA.mono hbs)⟩
      have HS1 : Hid (W0.heap.size + 1 ≤ (wr.alloc (.cells #[.string X, .string Y] 51)).heap.size) := by show _ ≤ _; simp; omega
      clear HA bA hq hcell x0 x1 hok HI hbs
      generalize hW1 : (wr.alloc (.cells #[.string X, .string Y] 51)) = W1 at *
      generalize hg9 : wr.heap.size = g9 at *
      obtain ⟨cp1, W2, hcv, hsl, -, hb2⟩ := st_sl rp W1
      rw [← HX.out] at hcv
      have KJ : Hid (Calls Try.prog 36 #[.slice (some ⟨W1.heap.size, 0, none⟩) rp.length cp1] W2 fun e w' => ∃ a n c, e = .returned (.tuple #[.slice a n c, .int .i64 0]) ∧ Bs (W2.heap.size ≤ ·) (jn rp) (.slice a n c) w' ∧ Below W2.heap.size W2 w') := njoin_bs hsl HJF.out.2.1 HJF.out.1
      have HB2 : Hid (Below W1.heap.size W1 W2) := hb2
      clear hsl hb2
      generalize rp.length = np at *
      go_wp2_with fail
      refine KJ.out.mono ?_
      rintro e w3 ⟨ka, kn, kc, rfl, hkb, hb3⟩
      clear hW1
      have b13 : Below W1.heap.size W1 w3 := HB2.out.trans (hb3.mono HB2.out.size)
      have r1' := (b13.cell (p := ⟨g9, 1, none⟩) h9).trans r1
      obtain ⟨cp2, W4, hcv2, hsl2, -, hb4⟩ := st_sl rv w3
      rw [← HY.out] at hcv2
      have e12 := HB2.out.size
      have b14 : Below W1.heap.size W1 W4 := b13.trans (hb4.mono b13.size)
      have b15 : Below W1.heap.size W1 (W4.alloc (.cells #[.slice ka kn kc, .slice (some ⟨w3.heap.size, 0, none⟩) rv.length cp2] 65)) := b14.alloc b14.size _
      have b45 : Below W4.heap.size W4 (W4.alloc (.cells #[.slice ka kn kc, .slice (some ⟨w3.heap.size, 0, none⟩) rv.length cp2] 65)) := (Below.refl _ _).alloc (Nat.le_refl _) _
      have HA5 := heap_alloc_new W4 (.cells #[.slice ka kn kc, .slice (some ⟨w3.heap.size, 0, none⟩) rv.length cp2] 65)
      have OWN : ∀ q, (Value.slice oa on oc).ownBlock = some q → q < W1.heap.size := fun q hq => by
        obtain ⟨vs, _, h2, _⟩ := HIA.out.o
        exact (h2.lt q hq).2
      have s1 := HS1.out
      have b3s := hb3.size
      have hb4s := hb4.size
      obtain ⟨gg, gc, W9, hap, hpo9, hgr9, hgo⟩ := Po_app (key := jn rp) (val := rv) (gb := W4.heap.size) 35 (Po_keep HIA.out.o (fun q _ hq => b15.block q hq) b15.size)
        (Bs_mono (Bs_below (Bs_below hkb hb4) b45) (fun q hq _ => ⟨by have : W2.heap.size ≤ q := hq; omega, fun e => by have : W2.heap.size ≤ q := hq; have := OWN q e.symm; omega⟩))
        (Bs_mono (Bs_below (sl_bs (S := (w3.heap.size ≤ ·)) (Nat.le_refl _) hsl2) b45) (fun q hq _ => ⟨by have : w3.heap.size ≤ q := hq; omega, fun e => by have : w3.heap.size ≤ q := hq; have := OWN q e.symm; omega⟩))
        (by simp only [World.cell?, HA5]; rfl) (by simp only [World.cell?, HA5]; rfl) (by simp; omega) (by rw [List.length_map, List.length_take]; have := HHL.out; omega)
      have HN : Hid (GQ l W0 (j + 1) (.slice (some ⟨gg, 0, none⟩) (((l.take j).map jp).length + 1) gc) W9) := by
        refine ⟨?_, ?_⟩
        · rw [HTK.out]; exact hpo9
        · have k1 := HIA.out.b.trans (b15.mono HIA.out.b.size)
          exact k1.grown hgr9 k1.size (fun q e => by have := hgo q e; omega)
      generalize ((l.take j).map jp).length + 1 = nn at *
      clear hkb hb3 b13 hsl2 hb4 b14 b15 b45 HA5 OWN s1 b3s hb4s e12 hpo9 hgr9 hgo HIA HS1 HB2 KJ HTK HRJ HJF HHL r0 r1 h9 hcv hR
      generalize rv.length = nr at *
      go_wp2_with (at_builtin; refine wpList_ap rfl rfl rfl rfl hap ?_)
      rw [e5.out]
      exact ⟨⟨j + 1, hlt, rfl, HN.out⟩, hms⟩
    · have ek : j = n := by omega
      subst ek
      have d0 : decide ((j : Int) < (j : Int)) = false := decide_eq_false (by omega)
      have hf := HI.out.o
      rw [List.take_of_length_le (by have := hx.out.1; omega)] at hf
      have HP : Hid (Pv (w.heap.size ≤ ·) (l.map jp) (.slice oa on oc) wr) := Pv_mono (Po_pv hf) (fun q hq _ => by have : W0.heap.size < q := hq; have := BW0.out.size; show w.heap.size ≤ q; omega)
      have HZ : Hid (Below w.heap.size w wr) := BW0.out.trans (HI.out.b.mono (by have := BW0.out.size; omega))
      clear hf HI
      go_wp2_with fail
      go_ret2
      exact ⟨_, rfl, HP.out, HZ.out⟩
end Tr
end Go.Proofs.Ytdcbgldelfhohaa
/- lampbearerref.SamePairs. -/
namespace Go.Proofs.Ytdcbgldelfhohaa
namespace Tr
open Nb Go.RowKit
set_option maxHeartbeats 1000000 in
set_option maxRecDepth 100000 in
theorem sp1_any (S T : Nat → Prop) (r q : By × By) (k1 v1 k2 v2 : Option Addr) (a1 c1 b1 e1 a2 c2 b2 e2 : Nat) (w : World) (hk1 : Bs S r.1 (.slice k1 a1 c1) w) (hv1 : Bs S r.2 (.slice v1 b1 e1) w) (hk2 : Bs T q.1 (.slice k2 a2 c2) w) (hv2 : Bs T q.2 (.slice v2 b2 e2) w) :
    Calls Try.prog 38 #[.agg #[.slice k1 a1 c1, .slice v1 b1 e1], .agg #[.slice k2 a2 c2, .slice v2 b2 e2]] w fun e w' => e = .returned (.bool (decide (r = q))) ∧ Below w.heap.size w w' := by
  have bA : Below w.heap.size w ((w.alloc (.cells #[.slice k1 a1 c1, .slice v1 b1 e1] 65)).alloc (.cells #[.slice k2 a2 c2, .slice v2 b2 e2] 65)) := ((Below.refl _ _).alloc (Nat.le_refl _) _).alloc (by simp) _
  have x1 := Sl_st (Bs_sl (Bs_below hk1 bA))
  have x2 := Sl_st (Bs_sl (Bs_below hv1 bA))
  have x3 := Sl_st (Bs_sl (Bs_below hk2 bA))
  have x4 := Sl_st (Bs_sl (Bs_below hv2 bA))
  have HA := heap_alloc_new w (.cells #[.slice k1 a1 c1, .slice v1 b1 e1] 65)
  have HB := heap_alloc_new (w.alloc (.cells #[.slice k1 a1 c1, .slice v1 b1 e1] 65)) (.cells #[.slice k2 a2 c2, .slice v2 b2 e2] 65)
  have hs1 : (w.alloc (.cells #[.slice k1 a1 c1, .slice v1 b1 e1] 65)).heap.size = w.heap.size + 1 := by simp
  have bB : Below (w.heap.size + 1) (w.alloc (.cells #[.slice k1 a1 c1, .slice v1 b1 e1] 65)) ((w.alloc (.cells #[.slice k1 a1 c1, .slice v1 b1 e1] 65)).alloc (.cells #[.slice k2 a2 c2, .slice v2 b2 e2] 65)) := (Below.refl _ _).alloc (by omega) _
  have q0 : ((w.alloc (.cells #[.slice k1 a1 c1, .slice v1 b1 e1] 65)).alloc (.cells #[.slice k2 a2 c2, .slice v2 b2 e2] 65)).cell? ⟨w.heap.size, 0, none⟩ = some (.slice k1 a1 c1) := (bB.cell (p := ⟨w.heap.size, 0, none⟩) (by show w.heap.size < _; omega)).trans (by simp only [World.cell?, HA]; rfl)
  have q1 : ((w.alloc (.cells #[.slice k1 a1 c1, .slice v1 b1 e1] 65)).alloc (.cells #[.slice k2 a2 c2, .slice v2 b2 e2] 65)).cell? ⟨w.heap.size, 1, none⟩ = some (.slice v1 b1 e1) := (bB.cell (p := ⟨w.heap.size, 1, none⟩) (by show w.heap.size < _; omega)).trans (by simp only [World.cell?, HA]; rfl)
  have q2 : ((w.alloc (.cells #[.slice k1 a1 c1, .slice v1 b1 e1] 65)).alloc (.cells #[.slice k2 a2 c2, .slice v2 b2 e2] 65)).cell? ⟨w.heap.size + 1, 0, none⟩ = some (.slice k2 a2 c2) := by rw [hs1] at HB; simp only [World.cell?, HB]; rfl
  have q3 : ((w.alloc (.cells #[.slice k1 a1 c1, .slice v1 b1 e1] 65)).alloc (.cells #[.slice k2 a2 c2, .slice v2 b2 e2] 65)).cell? ⟨w.heap.size + 1, 1, none⟩ = some (.slice v2 b2 e2) := by rw [hs1] at HB; simp only [World.cell?, HB]; rfl
  have HBB : Hid (Below w.heap.size w ((w.alloc (.cells #[.slice k1 a1 c1, .slice v1 b1 e1] 65)).alloc (.cells #[.slice k2 a2 c2, .slice v2 b2 e2] 65))) := bA
  have s1 := st_eq r.1 q.1
  have s2 := st_eq r.2 q.2
  have HD : Hid (decide (r = q) = (decide (r.1 = q.1) && decide (r.2 = q.2))) := by
    obtain ⟨r1, r2⟩ := r
    obtain ⟨t1, t2⟩ := q
    show _ = _
    simp [Prod.mk.injEq]
  clear bA HA HB bB hs1 hk1 hv1 hk2 hv2
  generalize Tr.st r.1 = X1 at *
  generalize Tr.st r.2 = X2 at *
  generalize Tr.st q.1 = Y1 at *
  generalize Tr.st q.2 = Y2 at *
  cases h1 : decide (r.1 = q.1) with
  | true =>
    rw [h1] at HD s1
    generalize hz : decide (r.2 = q.2) = Z at *
    clear h1 hz
    go_enter Try.func38, Try.ntmps38
    go_wp2_with fail
    go_ret
    exact ⟨by rw [HD.out]; rfl, HBB.out⟩
  | false =>
    rw [h1] at HD s1
    clear h1 s2
    go_enter Try.func38, Try.ntmps38
    go_wp2_with fail
    go_ret
    exact ⟨by rw [HD.out]; rfl, HBB.out⟩
theorem rt_ext {a b : Rt} (hl : a.length = b.length) (h : ∀ j, j < a.length → a.getD j n2 = b.getD j n2) : a = b := by
  apply List.ext_getElem hl
  intro i h1 h2
  have := h i h1
  rwa [List.getD_eq_getElem?_getD, List.getD_eq_getElem?_getD, List.getElem?_eq_getElem h1, List.getElem?_eq_getElem h2] at this
set_option maxHeartbeats 1000000 in
set_option maxRecDepth 100000 in
theorem eqp_len (a1 a2 : Option Addr) (n1 c1 n2 c2 : Nat) (w : World) (h : n1 ≠ n2) :
    Calls Try.prog 37 #[.slice a1 n1 c1, .slice a2 n2 c2, .func (.func 38) #[] #[]] w fun e w' => e = .returned (.bool false) ∧ Below w.heap.size w w' := by
  have d0 : ((n1 : Int) != (n2 : Int)) = true := bne_iff_ne.2 (by omega)
  have d1 : (n1 != n2) = true := bne_iff_ne.2 h
  have B : Hid (Below w.heap.size w w) := Below.refl _ _
  go_enter Try.func37, Try.ntmps37
  go_wp2_with fail
  go_ret
  exact ⟨rfl, B.out⟩
set_option maxHeartbeats 2000000 in
set_option maxRecDepth 100000 in
theorem eqp_any (S T : Nat → Prop) (l m : Rt) (x1 x2 : Option Addr) (n y1 y2 : Nat) (w : World) (hn : Hid (n = l.length)) (hn2 : Hid (n = m.length)) (hp : Hid (Pv S l (.slice x1 n y1) w)) (hp2 : Hid (Pv T m (.slice x2 n y2) w)) (hz : Hid (n ≤ 4194304)) :
    Calls Try.prog 37 #[.slice x1 n y1, .slice x2 n y2, .func (.func 38) #[] #[]] w fun e w' => e = .returned (.bool (decide (l = m))) ∧ Below w.heap.size w w' := by
  have d0 : ((n : Int) != (n : Int)) = false := by simp
  go_enter Try.func37, Try.ntmps37
  go_wp2_with fail
  go_loopw [17] (fun i wr => ∃ k : Nat, k ≤ n ∧ i = .int .i64 (k : Int) ∧ (∀ j, j < k → l.getD j Tr.n2 = m.getD j Tr.n2) ∧ Below w.heap.size w wr) (fun i _ => ((n : Int) - intOf i).toNat)
  case atStart => exact ⟨0, Nat.zero_le _, rfl, fun j hj => absurd hj (by omega), Below.refl _ _⟩
  case round =>
    obtain ⟨k, hkn, rfl, hall, hB⟩ := hrel
    by_cases hlt : k < n
    · have d0 : decide ((k : Int) < (n : Int)) = true := decide_eq_true (by omega)
      have d1 : (0 : Int) ≤ (k : Int) := by omega
      have d2 : (k : Int) < (n : Int) := by omega
      have hks : k < l.length := by have := hn.out; omega
      have hjs : k < m.length := by have := hn2.out; omega
      obtain ⟨g, off, kv1, vv1, rfl, -, hg, z0, z1, i1, i2⟩ := Pv_at hp.out hks
      obtain ⟨g2, off2, kv2, vv2, rfl, -, hg2, t0, t1, j1, j2⟩ := Pv_at hp2.out hjs
      replace z0 := (hB.cell (p := ⟨g, off + 2 * k, none⟩) hg).trans z0
      replace z1 := (hB.cell (p := ⟨g, off + 2 * k + 1, none⟩) hg).trans z1
      replace t0 := (hB.cell (p := ⟨g2, off2 + 2 * k, none⟩) hg2).trans t0
      replace t1 := (hB.cell (p := ⟨g2, off2 + 2 * k + 1, none⟩) hg2).trans t1
      rw [Nat.mul_comm 2 k] at z0 z1 t0 t1
      have hgk2 : g < wr.heap.size := Nat.lt_of_lt_of_le hg hB.size
      have hgj2 : g2 < wr.heap.size := Nat.lt_of_lt_of_le hg2 hB.size
      obtain ⟨k1, c1, rfl, _⟩ := Bs_form i1
      obtain ⟨v1, e1, rfl, _⟩ := Bs_form i2
      obtain ⟨k2, c2, rfl, _⟩ := Bs_form j1
      obtain ⟨v2, e2, rfl, _⟩ := Bs_form j2
      have HF : Hid (decide (l.getD k Tr.n2 = m.getD k Tr.n2) = false → decide (l = m) = false) := fun h => decide_eq_false (fun e => by subst e; exact absurd rfl (of_decide_eq_false h))
      have HT : Hid (decide (l.getD k Tr.n2 = m.getD k Tr.n2) = true → ∀ j, j < k + 1 → l.getD j Tr.n2 = m.getD j Tr.n2) := fun h j hj => by
        rcases Nat.lt_or_ge j k with h1 | h1
        · exact hall j h1
        · have e : j = k := by omega
          rw [e]; exact of_decide_eq_true h
      have e5 : Hid (wrap64 ((k : Int) + 1) = ((k + 1 : Nat) : Int)) := by have := hz.out; show _ = _; unfold wrap64; omega
      have hms := msr_up k n hlt
      generalize hr : l.getD k Tr.n2 = r at *
      generalize hq : m.getD k Tr.n2 = q at *
      generalize r.1.length = a1 at *
      generalize r.2.length = b1 at *
      generalize q.1.length = a2 at *
      generalize q.2.length = b2 at *
      have bA : Below wr.heap.size wr ((wr.alloc (.cells #[.slice k1 a1 c1, .slice v1 b1 e1] 65)).alloc (.cells #[.slice k2 a2 c2, .slice v2 b2 e2] 65)) := ((Below.refl _ _).alloc (Nat.le_refl _) _).alloc (by simp) _
      have bw : Below w.heap.size w ((wr.alloc (.cells #[.slice k1 a1 c1, .slice v1 b1 e1] 65)).alloc (.cells #[.slice k2 a2 c2, .slice v2 b2 e2] 65)) := hB.trans (bA.mono hB.size)
      have KB : Hid (∀ W : World, W = ((wr.alloc (.cells #[.slice k1 a1 c1, .slice v1 b1 e1] 65)).alloc (.cells #[.slice k2 a2 c2, .slice v2 b2 e2] 65)) → Calls Try.prog 38 #[.agg #[.slice k1 a1 c1, .slice v1 b1 e1], .agg #[.slice k2 a2 c2, .slice v2 b2 e2]] W fun e w' => e = .returned (.bool (decide (r = q))) ∧ Below w.heap.size w w') := fun W ew => by
        subst ew
        refine (sp1_any S T r q k1 v1 k2 v2 a1 c1 b1 e1 a2 c2 b2 e2 _ (Bs_below i1 bw) (Bs_below i2 bw) (Bs_below j1 bw) (Bs_below j2 bw)).mono fun e w' he => ⟨he.1, bw.trans (he.2.mono bw.size)⟩
      clear i1 i2 j1 j2 bA bw hall hr hq hks hjs hg hg2 hB hp hp2
      go_wp2_with fail
      refine (KB.out _ rfl).mono (fun e w5 he => ?_)
      obtain ⟨rfl, b5⟩ := he
      have B5 : Hid (Below w.heap.size w w5) := b5
      clear KB z0 z1 t0 t1 b5
      cases hb : decide (r = q) with
      | true =>
        have HT2 : Hid (∀ j, j < k + 1 → l.getD j Tr.n2 = m.getD j Tr.n2) := HT.out hb
        clear hb HT HF
        go_wp2_with fail
        rw [e5.out]
        exact ⟨⟨k + 1, hlt, rfl, HT2.out, B5.out⟩, hms⟩
      | false =>
        have hf : Hid (decide (l = m) = false) := HF.out hb
        clear hb HT HF
        go_wp2_with fail
        go_ret
        exact ⟨by rw [hf.out]; rfl, B5.out⟩
    · have d0 : decide ((k : Int) < (n : Int)) = false := decide_eq_false (by omega)
      have hs : Hid (decide (l = m) = true) := decide_eq_true (rt_ext (by have := hn.out; have := hn2.out; omega) (fun j hj => hall j (by have := hn.out; omega)))
      have BF : Hid (Below w.heap.size w wr) := hB
      clear hall hB
      go_wp2_with fail
      go_ret
      exact ⟨by rw [hs.out]; rfl, BF.out⟩
set_option maxHeartbeats 1000000 in
set_option maxRecDepth 100000 in
theorem samep_any {S T : Nat → Prop} {l m : Rt} {u v : Value} {w : World} (hl : Pv S l u w) (hm : Pv T m v w) (hz : l.length ≤ 4194304) : Calls Try.prog 18 #[u, v] w fun e w' => e = .returned (.bool (decide (l = m))) ∧ Below w.heap.size w w' := by
  obtain ⟨x1, y1, rfl, _⟩ := Pv_form hl
  obtain ⟨x2, y2, rfl, _⟩ := Pv_form hm
  have KE : Hid (Calls Try.prog 37 #[.slice x1 l.length y1, .slice x2 m.length y2, .func (.func 38) #[] #[]] w fun e w' => e = .returned (.bool (decide (l = m))) ∧ Below w.heap.size w w') := by
    by_cases e : l.length = m.length
    · have hm2 : Pv T m (.slice x2 l.length y2) w := by rw [e]; exact hm
      have := eqp_any S T l m x1 x2 l.length y1 y2 w rfl e hl hm2 hz
      rwa [← e]
    · rw [decide_eq_false (fun h => e (by rw [h]))]
      exact eqp_len x1 x2 _ y1 _ y2 w e
  clear hl hm
  generalize l.length = n at *
  generalize m.length = n' at *
  generalize decide (l = m) = B at *
  go_enter Try.func18, Try.ntmps18
  go_wp2_with fail
  refine KE.out.mono ?_
  rintro e w5 ⟨rfl, hb⟩
  have HB : Hid (Below w.heap.size w w5) := hb
  clear hb
  go_wp2_with fail
  go_ret
  exact ⟨rfl, HB.out⟩
end Tr
end Go.Proofs.Ytdcbgldelfhohaa
/- The law TreePuts, over what slices.SortFunc does. -/
namespace Go.Proofs.Ytdcbgldelfhohaa
namespace Tr
open Nb Go.RowKit
theorem rt_less {t : Nd} {l : Rt} (h : rt t = some l) : l.length + 1 ≤ wn t := by
  cases t with
  | mk k p v ks =>
    unfold rt at h
    split at h
    · cases h
    split at h
    · cases h
      unfold wn
      rw [List.length_nil]; omega
    split at h
    · cases h
      unfold wn
      rw [List.length_singleton]; omega
    split at h
    · rename_i h2
      obtain ⟨t, rfl⟩ := List.length_eq_one_iff.1 h2.2
      rw [rt0] at h
      cases ha : rt t with
      | none => rw [ha] at h; cases h
      | some a =>
        rw [ha] at h
        cases h
        have := rt_count (wf_any t) a ha
        unfold wn wnk wnk
        rw [pre_len']; omega
    split at h
    · cases ha : rtk 0 ks with
      | none => rw [ha] at h; cases h
      | some a =>
        rw [ha] at h
        cases h
        have := rtk_count ks 0 a (fun j hj l hl => rt_count (wf_any _) l hl) ha
        unfold wn
        rw [List.length_append]
        split
        · rw [List.length_nil]; omega
        · rw [List.length_singleton]; omega
    · cases h
end Tr
end Go.Proofs.Ytdcbgldelfhohaa
/- The law TreePuts, over what slices.SortFunc does. -/
namespace Go.Proofs.Ytdcbgldelfhohaa
namespace Tr
open Nb Go.RowKit
theorem bns_len' : ∀ l : List Nd, (bns l).length = l.length
  | [] => rfl
  | t :: r => by rw [bns, List.length_cons, List.length_cons, bns_len' r]
theorem bns_at : ∀ (l : List Nd) (j : Nat), j < l.length → (bns l).getD j Nd.no = bn (l.getD j Nd.no)
  | [], j, h => absurd h (by simp)
  | t :: r, 0, _ => by rw [bns]; rfl
  | t :: r, j + 1, h => by
    rw [bns, List.getD_cons_succ, List.getD_cons_succ]
    exact bns_at r j (by simpa using h)
theorem sm_nil (k : Int) (p v : By) : Sm (.mk k p v []) := .mk k p v [] (by simp) (fun j hj => absurd hj (by simp))
theorem sm_bn {t : Nd} (h : Rs t) : Sm (bn t) := by
  induction h with
  | none p v ks => simp only [bn]; exact sm_nil _ _ _
  | leaf p v ks hp hv => simp only [bn]; exact sm_nil _ _ _
  | road p v t hp h0 hk h ih =>
    have e : bn (.mk 2 p v [t]) = .mk 2 p [] [bn t] := by simp [bn, bns]
    rw [e]
    refine .mk 2 p [] [bn t] (by simp) (fun j hj => ?_)
    have : j = 0 := by simpa using hj
    subst this
    exact ih
  | fork p v ks hl h h2 ih =>
    have e : bn (.mk 3 p v ks) = .mk 3 [] v (bns ks) := by simp [bn]
    rw [e]
    refine .mk 3 [] v (bns ks) (by rw [bns_len', hl]; omega) (fun j hj => ?_)
    rw [bns_len'] at hj
    rw [bns_at ks j hj]
    exact ih j (by omega)
theorem pr_sm {t : Nd} {b y : By} {r : Nd} (h : PR t b y r) : Sm r := by
  unfold PR at h
  split at h
  · obtain ⟨t', rfl, hr, _⟩ := h
    exact sm_bn hr
  · rw [h]; exact sm_nil _ _ _
set_option maxHeartbeats 2000000 in
set_option maxRecDepth 100000 in
theorem law_puts (hso : SortOk) (t : Nd) (hs : Sm t) (x : V4) (w : World) (hx : Nv (· < w.heap.size) w t x) (hw : wn t ≤ 1048576) (b : By) (kv : Value) (hb : Bs (· < w.heap.size) b kv w) (y : By) (yv : Value) (hy : Bs (· < w.heap.size) y yv w) :
    Calls Try.prog 5 #[v4 x, kv, yv] w fun e w' => e = .returned (.bool true) ∧ Below w.heap.size w w' := by
  obtain ⟨k, a1, n1, c1, a2, m2, c2, a3, n3, c3, rfl⟩ := Nv_form hx
  obtain ⟨ak, ck, rfl, _⟩ := Bs_form hb
  obtain ⟨av, cv, rfl, _⟩ := Bs_form hy
  have N0 := NB_new hx (Nat.le_refl _)
  have KX : Hid (∀ wx : World, NB w.heap.size (.int .i64 k, .slice a1 n1 c1, .slice a2 m2 c2, .slice a3 n3 c3) t w.heap.size w wx → Calls Try.prog 13 #[.agg #[.int .i64 k, .slice a1 n1 c1, .slice a2 m2 c2, .slice a3 n3 c3], .slice ak b.length ck, .slice av y.length cv] wx fun e w' => ∃ (r : Nd) (u : V4), e = .returned (.tuple #[v4 u, .int .i64 (pe t b y)]) ∧ (Nv (fun _ => True) w' r u ∧ PR t b y r) ∧ Below wx.heap.size wx w') := fun wx hn => by
    refine (tput_any t _ _ _ (.int .i64 k, .slice a1 n1 c1, .slice a2 m2 c2, .slice a3 n3 c3) wx hn.n (by omega) b _ (Bs_below hb hn.b) y _ (Bs_below hy hn.b)).mono fun e w' he => ?_
    obtain ⟨r, u, h1, h2, h3, h4⟩ := he
    exact ⟨r, u, h1, ⟨Nv_mono h2 (fun _ _ _ => trivial), h3⟩, h4⟩
  have KY : Hid (∀ wx : World, NB w.heap.size (.int .i64 k, .slice a1 n1 c1, .slice a2 m2 c2, .slice a3 n3 c3) t w.heap.size w wx → Calls Try.prog 14 #[.agg #[.int .i64 k, .slice a1 n1 c1, .slice a2 m2 c2, .slice a3 n3 c3], .slice ak b.length ck, .slice av y.length cv] wx fun e w' => ∃ (r : Nd) (u : V4), e = .returned (.tuple #[v4 u, .int .i64 (pe t b y)]) ∧ (Nv (fun _ => True) w' r u ∧ GR2 t b y r) ∧ Below wx.heap.size wx w') := fun wx hn => by
    refine (gput_any hso t hs _ _ _ (.int .i64 k, .slice a1 n1 c1, .slice a2 m2 c2, .slice a3 n3 c3) wx hn.n hw b _ (Bs_below hb hn.b) y _ (Bs_below hy hn.b) (fun l hl => Nat.le_trans (rt_less hl) hw)).mono fun e w' he => ?_
    obtain ⟨r, u, h1, h2, h3, h4⟩ := he
    exact ⟨r, u, h1, ⟨Nv_mono h2 (fun _ _ _ => trivial), h3⟩, h4⟩
  have R0 : Hid (NB w.heap.size (.int .i64 k, .slice a1 n1 c1, .slice a2 m2 c2, .slice a3 n3 c3) t w.heap.size w (w.alloc (.cells #[.int .i64 k, .slice a1 n1 c1, .slice a2 m2 c2, .slice a3 n3 c3] 25))) := N0
  clear N0 hx hw hs hb hy
  show Calls Try.prog _ #[.agg #[.int .i64 k, .slice a1 n1 c1, .slice a2 m2 c2, .slice a3 n3 c3], .slice ak b.length ck, .slice av y.length cv] w _
  have q0 := R0.out.bx.2.1
  have q1 := R0.out.bx.2.2.1
  have q2 := R0.out.bx.2.2.2.1
  have q3 := R0.out.bx.2.2.2.2
  dsimp only at q0 q1 q2 q3
  generalize hP : pe t b y = P at *
  generalize hW : (w.alloc (.cells #[.int .i64 k, .slice a1 n1 c1, .slice a2 m2 c2, .slice a3 n3 c3] 25)) = W1 at *
  go_enter Try.func5, Try.ntmps5
  go_wp2_with fail
  refine (KX.out _ R0.out).mono ?_
  rintro e w1 ⟨r1, u1, rfl, hr1, hb1⟩
  have R1 : Hid (NB w.heap.size (.int .i64 k, .slice a1 n1 c1, .slice a2 m2 c2, .slice a3 n3 c3) t w.heap.size w w1) := NB_below R0.out hb1
  have HR1 : Hid (Nv (fun _ => True) w1 r1 u1 ∧ PR t b y r1) := hr1
  obtain ⟨xk, xa1, xn1, xc1, xa2, xn2, xc2, xa3, xn3, xc3, rfl⟩ := Nv_form hr1.1
  have bA : Below w1.heap.size w1 (w1.alloc (.cells #[.int .i64 xk, .slice xa1 xn1 xc1, .slice xa2 xn2 xc2, .slice xa3 xn3 xc3] 25)) := (Below.refl _ _).alloc (Nat.le_refl _) _
  have BX1 := Bx_new w1 (.int .i64 xk, .slice xa1 xn1 xc1, .slice xa2 xn2 xc2, .slice xa3 xn3 xc3)
  dsimp only at BX1
  have R2 : Hid (NB w.heap.size (.int .i64 k, .slice a1 n1 c1, .slice a2 m2 c2, .slice a3 n3 c3) t w.heap.size w (w1.alloc (.cells #[.int .i64 xk, .slice xa1 xn1 xc1, .slice xa2 xn2 xc2, .slice xa3 xn3 xc3] 25))) := NB_below R1.out bA
  have HR2 : Hid (Nv (fun _ => True) (w1.alloc (.cells #[.int .i64 xk, .slice xa1 xn1 xc1, .slice xa2 xn2 xc2, .slice xa3 xn3 xc3] 25)) r1 (.int .i64 xk, .slice xa1 xn1 xc1, .slice xa2 xn2 xc2, .slice xa3 xn3 xc3) ∧ PR t b y r1) := ⟨Nv_below hr1.1 bA, hr1.2⟩
  have HBX : Hid (Bx w1.heap.size (.int .i64 xk, .slice xa1 xn1 xc1, .slice xa2 xn2 xc2, .slice xa3 xn3 xc3) (w1.alloc (.cells #[.int .i64 xk, .slice xa1 xn1 xc1, .slice xa2 xn2 xc2, .slice xa3 xn3 xc3] 25))) := BX1
  clear hb1 hr1 bA BX1 R0 R1 HR1 KX hW q0 q1 q2 q3
  simp only [v4]
  have q0 := R2.out.bx.2.1
  have q1 := R2.out.bx.2.2.1
  have q2 := R2.out.bx.2.2.2.1
  have q3 := R2.out.bx.2.2.2.2
  dsimp only at q0 q1 q2 q3
  go_wp2_with fail
  refine (KY.out _ R2.out).mono ?_
  rintro e w2 ⟨r2, u2, rfl, hr2, hb2⟩
  obtain ⟨zk, za1, zn1, zc1, za2, zn2, zc2, za3, zn3, zc3, rfl⟩ := Nv_form hr2.1
  have bB : Below w2.heap.size w2 (w2.alloc (.cells #[.int .i64 zk, .slice za1 zn1 zc1, .slice za2 zn2 zc2, .slice za3 zn3 zc3] 25)) := (Below.refl _ _).alloc (Nat.le_refl _) _
  have BX2 := Bx_new w2 (.int .i64 zk, .slice za1 zn1 zc1, .slice za2 zn2 zc2, .slice za3 zn3 zc3)
  dsimp only at BX2
  have BX1 := Bx_below (Bx_below HBX.out hb2) bB
  have hz := put_eq HR2.out.2 hr2.2
  have hN1 := Nv_below (Nv_below HR2.out.1 hb2) bB
  have hN2 := Nv_below hr2.1 bB
  have KS : Hid (∀ wx : World, wx = (w2.alloc (.cells #[.int .i64 zk, .slice za1 zn1 zc1, .slice za2 zn2 zc2, .slice za3 zn3 zc3] 25)) → Calls Try.prog 15 #[.agg #[.int .i64 xk, .slice xa1 xn1 xc1, .slice xa2 xn2 xc2, .slice xa3 xn3 xc3], .agg #[.int .i64 zk, .slice za1 zn1 zc1, .slice za2 zn2 zc2, .slice za3 zn3 zc3]] wx fun e w' => e = .returned (.bool true) ∧ Below w.heap.size w w') := fun wx ew => by
    subst ew
    have h := same_any (pr_sm HR2.out.2) r2 _ _ (.int .i64 xk, .slice xa1 xn1 xc1, .slice xa2 xn2 xc2, .slice xa3 xn3 xc3) (.int .i64 zk, .slice za1 zn1 zc1, .slice za2 zn2 zc2, .slice za3 zn3 zc3) _ hN1 hN2
    rw [hz] at h
    refine h.mono fun e w' he => ⟨he.1, ?_⟩
    have b3 := (NB_below (NB_below R2.out hb2) bB).b
    exact b3.trans (he.2.mono b3.size)
  have m0 := BX1.2.1
  have m1 := BX1.2.2.1
  have m2' := BX1.2.2.2.1
  have m3 := BX1.2.2.2.2
  have k0 := BX2.2.1
  have k1 := BX2.2.2.1
  have k2 := BX2.2.2.2.1
  have k3 := BX2.2.2.2.2
  dsimp only at m0 m1 m2' m3 k0 k1 k2 k3
  have cb : (P == P) = true := beq_self_eq_true P
  clear hb2 hr2 bB BX1 BX2 hz hN1 hN2 R2 HR2 HBX KY q0 q1 q2 q3
  simp only [v4]
  go_wp2_with fail
  refine (KS.out _ rfl).mono ?_
  rintro e w9 ⟨rfl, hb9⟩
  have HZ : Hid (Below w.heap.size w w9) := hb9
  clear hb9 KS m0 m1 m2' m3 k0 k1 k2 k3
  go_wp2_with fail
  go_ret
  exact ⟨rfl, HZ.out⟩
end Tr
end Go.Proofs.Ytdcbgldelfhohaa
/- tree.Pairs and lampbearerref.GPairs at every argument; the law TreePairs. -/
namespace Go.Proofs.Ytdcbgldelfhohaa
namespace Tr
open Nb Go.RowKit
/-- What Pairs tells, and its error. -/
def prs (t : Nd) : Rt := if rd 0 t = true then ((rt t).getD []).map jp else []
def pz (t : Nd) : Int := if rd 0 t = true then 0 else 1
theorem prs_len {t : Nd} (hw : wn t ≤ 1048576) : (prs t).length ≤ 1048576 := by
  unfold prs
  split
  · cases h : rt t with
    | none => simp
    | some l =>
      have := rt_less h
      simp
      omega
  · simp
theorem okr_okp {l : Rt} (h : ∀ r ∈ l, Okr r.1 r.2) : Okp [] l := fun r hr => by
  have := h r hr
  rw [List.nil_append]
  exact ⟨this.2.1, this.1, this.2.2.2⟩
theorem tpairs_any (t : Nd) (S : Nat → Prop) (x : V4) (w : World) (hx : Nv S w t x) (hw : wn t ≤ 1048576) :
    Calls Try.prog 16 #[v4 x] w fun e w' => ∃ v, e = .returned (.tuple #[v, .int .i64 (pz t)]) ∧ Pv (w.heap.size ≤ ·) (prs t) v w' ∧ Below w.heap.size w w' := by
  have hx := Nv_mono (S' := (· < w.heap.size)) hx (fun k _ h => h)
  obtain ⟨k, a1, n1, c1, a2, m2, c2, a3, n3, c3, rfl⟩ := Nv_form hx
  have KR : ∀ wx : World, Below w.heap.size w wx → Calls Try.prog 22 #[.agg #[.int .i64 k, .slice a1 n1 c1, .slice a2 m2 c2, .slice a3 n3 c3], .int .i64 0] wx (RP w.heap.size 0 t wx) := fun wx h => (read_all w.heap.size (wf_any t)).1 0 (.int .i64 k, .slice a1 n1 c1, .slice a2 m2 c2, .slice a3 n3 c3) wx (by omega) (Nv_below hx h) h.size (by omega)
  cases hr : rd 0 t with
  | false =>
    have h1 : pz t = 1 := by unfold pz; rw [hr]; rfl
    have h2 : prs t = [] := by unfold prs; rw [hr]; rfl
    rw [h1, h2]
    refine (pairs_form k a1 a2 a3 n1 c1 m2 c2 n3 c3 w (fun wx h => (KR wx h).mono fun e w' he => ?_)).mono fun e w' he => ?_
    · obtain ⟨z, h1, _, h3⟩ := he
      rw [hr] at h1
      exact ⟨z, h1, h3⟩
    · exact ⟨_, he.1, Pv_nil _ _, he.2⟩
  | true =>
    have hR := (rd_right t).1 hr
    obtain ⟨l, hl, hok, _⟩ := (right_iff t).1 hR
    have h1 : pz t = 0 := by unfold pz; rw [hr]; rfl
    have h2 : prs t = l.map jp := by unfold prs; rw [hr, hl]; rfl
    rw [h1, h2]
    refine (pairs_value k a1 a2 a3 n1 c1 m2 c2 n3 c3 w w.heap.size t l (fun wx h => (KR wx h).mono fun e w' he => ?_) hR.1 hl (okr_okp hok) (by have := rt_less hl; show _ ≤ _; omega)).mono fun e w' he => he
    obtain ⟨z, h1, h2, h3⟩ := he
    rw [hr] at h1
    exact ⟨z, h1, In_mono (h2 hr) (fun _ _ => trivial), h3⟩
theorem gpairs_any (t : Nd) (hsm : Sm t) (S : Nat → Prop) (x : V4) (w : World) (hx : Nv S w t x) (hw : wn t ≤ 1048576) :
    Calls Try.prog 17 #[v4 x] w fun e w' => ∃ v, e = .returned (.tuple #[v, .int .i64 (pz t)]) ∧ Pv (w.heap.size ≤ ·) (prs t) v w' ∧ Below w.heap.size w w' := by
  obtain ⟨k, a1, n1, c1, a2, m2, c2, a3, n3, c3, rfl⟩ := Nv_form hx
  have KG : ∀ wx : World, Below w.heap.size w wx → Calls Try.prog 10 #[.agg #[.int .i64 k, .slice a1 n1 c1, .slice a2 m2 c2, .slice a3 n3 c3]] wx fun e w' => e = .returned (.bool (rd 0 t)) ∧ Below wx.heap.size wx w' := fun wx h => by
    rw [rd_gr]
    exact gright_any grown_ok t hsm S (.int .i64 k, .slice a1 n1 c1, .slice a2 m2 c2, .slice a3 n3 c3) wx (Nv_below hx h) hw
  cases hr : rd 0 t with
  | false =>
    rw [hr] at KG
    have h1 : pz t = 1 := by unfold pz; rw [hr]; rfl
    have h2 : prs t = [] := by unfold prs; rw [hr]; rfl
    rw [h1, h2]
    exact (gpr_form k a1 a2 a3 n1 c1 m2 c2 n3 c3 w KG).mono fun e w' he => ⟨_, he.1, Pv_nil _ _, he.2⟩
  | true =>
    rw [hr] at KG
    have hR := (rd_right t).1 hr
    obtain ⟨l, hl, hok, _⟩ := (right_iff t).1 hR
    have h1 : pz t = 0 := by unfold pz; rw [hr]; rfl
    have h2 : prs t = l.map jp := by unfold prs; rw [hr, hl]; rfl
    have hpre : pre [] l = l := by unfold pre; simp
    have hpt := (rt_spec hl).2.1
    have hlen := rt_less hl
    rw [h1, h2]
    refine (gpr_value k a1 a2 a3 n1 c1 m2 c2 n3 c3 w KG l (by show _ ≤ _; omega) (fun r hr => ⟨⟨(hok r hr).1, hpt r hr⟩, (hok r hr).2.1, (hok r hr).2.2.2⟩) (fun wx hbw => ?_)).mono fun e w' he => he
    refine (routes_any (wf_any t) S (.int .i64 k, .slice a1 n1 c1, .slice a2 m2 c2, .slice a3 n3 c3) wx [] (Nv_below hx hbw) (by rw [List.length_nil]; omega)).mono fun e w' he => ?_
    obtain ⟨g1 | g1, g2⟩ := he
    · obtain ⟨l2, y, g3, g4, g5⟩ := g1
      rw [hl] at g3
      cases g3
      rw [hpre] at g5
      have g6 := g5
      obtain ⟨la, lc, rfl, -, -⟩ := g5
      exact ⟨la, _, lc, g4, ⟨rfl, g6⟩, g2⟩
    · rw [hl] at g1; cases g1.1
set_option maxHeartbeats 2000000 in
set_option maxRecDepth 100000 in
theorem law_pairs (t : Nd) (hs : Sm t) (x : V4) (w : World) (hx : Nv (· < w.heap.size) w t x) (hw : wn t ≤ 1048576) :
    Calls Try.prog 6 #[v4 x] w fun e w' => e = .returned (.bool true) ∧ Below w.heap.size w w' := by
  obtain ⟨k, a1, n1, c1, a2, m2, c2, a3, n3, c3, rfl⟩ := Nv_form hx
  have N0 := NB_new hx (Nat.le_refl _)
  have hlen := prs_len hw
  have KX : Hid (∀ wx : World, NB w.heap.size (.int .i64 k, .slice a1 n1 c1, .slice a2 m2 c2, .slice a3 n3 c3) t w.heap.size w wx → Calls Try.prog 16 #[.agg #[.int .i64 k, .slice a1 n1 c1, .slice a2 m2 c2, .slice a3 n3 c3]] wx fun e w' => ∃ a n c, e = .returned (.tuple #[.slice a n c, .int .i64 (pz t)]) ∧ Pv (fun _ => True) (prs t) (.slice a n c) w' ∧ Below wx.heap.size wx w') := fun wx hn => by
    refine (tpairs_any t _ (.int .i64 k, .slice a1 n1 c1, .slice a2 m2 c2, .slice a3 n3 c3) wx hn.n hw).mono fun e w' he => ?_
    obtain ⟨v, h1, h2, h3⟩ := he
    obtain ⟨ao, cap, rfl, _⟩ := Pv_form h2
    exact ⟨ao, _, cap, h1, Pv_mono h2 (fun _ _ _ => trivial), h3⟩
  have KY : Hid (∀ wx : World, NB w.heap.size (.int .i64 k, .slice a1 n1 c1, .slice a2 m2 c2, .slice a3 n3 c3) t w.heap.size w wx → Calls Try.prog 17 #[.agg #[.int .i64 k, .slice a1 n1 c1, .slice a2 m2 c2, .slice a3 n3 c3]] wx fun e w' => ∃ a n c, e = .returned (.tuple #[.slice a n c, .int .i64 (pz t)]) ∧ Pv (fun _ => True) (prs t) (.slice a n c) w' ∧ Below wx.heap.size wx w') := fun wx hn => by
    refine (gpairs_any t hs _ (.int .i64 k, .slice a1 n1 c1, .slice a2 m2 c2, .slice a3 n3 c3) wx hn.n hw).mono fun e w' he => ?_
    obtain ⟨v, h1, h2, h3⟩ := he
    obtain ⟨ao, cap, rfl, _⟩ := Pv_form h2
    exact ⟨ao, _, cap, h1, Pv_mono h2 (fun _ _ _ => trivial), h3⟩
  have R0 : Hid (NB w.heap.size (.int .i64 k, .slice a1 n1 c1, .slice a2 m2 c2, .slice a3 n3 c3) t w.heap.size w (w.alloc (.cells #[.int .i64 k, .slice a1 n1 c1, .slice a2 m2 c2, .slice a3 n3 c3] 25))) := N0
  clear N0 hx hw hs
  show Calls Try.prog _ #[.agg #[.int .i64 k, .slice a1 n1 c1, .slice a2 m2 c2, .slice a3 n3 c3]] w _
  have q0 := R0.out.bx.2.1
  have q1 := R0.out.bx.2.2.1
  have q2 := R0.out.bx.2.2.2.1
  have q3 := R0.out.bx.2.2.2.2
  dsimp only at q0 q1 q2 q3
  have HL : Hid ((prs t).length ≤ 1048576) := hlen
  clear hlen
  generalize pz t = P at *
  generalize prs t = L at *
  generalize hW : (w.alloc (.cells #[.int .i64 k, .slice a1 n1 c1, .slice a2 m2 c2, .slice a3 n3 c3] 25)) = W1 at *
  go_enter Try.func6, Try.ntmps6
  go_wp2_with fail
  refine (KX.out _ R0.out).mono ?_
  rintro e w1 ⟨xa, xn, xc, rfl, hx1, hb1⟩
  have R1 : Hid (NB w.heap.size (.int .i64 k, .slice a1 n1 c1, .slice a2 m2 c2, .slice a3 n3 c3) t w.heap.size w w1) := NB_below R0.out hb1
  have HX1 : Hid (Pv (fun _ => True) L (.slice xa xn xc) w1) := hx1
  clear hb1 hx1 R0 KX hW q0 q1 q2 q3
  have q0 := R1.out.bx.2.1
  have q1 := R1.out.bx.2.2.1
  have q2 := R1.out.bx.2.2.2.1
  have q3 := R1.out.bx.2.2.2.2
  dsimp only at q0 q1 q2 q3
  go_wp2_with fail
  refine (KY.out _ R1.out).mono ?_
  rintro e w2 ⟨ya, yn, yc, rfl, hy1, hb2⟩
  have R2 : Hid (Below w.heap.size w w2) := R1.out.b.trans (hb2.mono R1.out.b.size)
  have KS : Hid (∀ wx : World, wx = w2 → Calls Try.prog 18 #[.slice xa xn xc, .slice ya yn yc] wx fun e w' => e = .returned (.bool true) ∧ Below w.heap.size w w') := fun wx ew => by
    subst ew
    have h := samep_any (Pv_below HX1.out hb2) hy1 (by have := HL.out; omega)
    rw [decide_eq_true rfl] at h
    exact h.mono fun e w' he => ⟨he.1, R2.out.trans (he.2.mono R2.out.size)⟩
  have cb : (P == P) = true := beq_self_eq_true P
  clear hb2 hy1 HX1 R1 KY q0 q1 q2 q3
  go_wp2_with fail
  refine (KS.out _ rfl).mono ?_
  rintro e w9 ⟨rfl, hb9⟩
  have HZ : Hid (Below w.heap.size w w9) := hb9
  clear hb9 KS
  go_wp2_with fail
  go_ret
  exact ⟨rfl, HZ.out⟩
end Tr
end Go.Proofs.Ytdcbgldelfhohaa
