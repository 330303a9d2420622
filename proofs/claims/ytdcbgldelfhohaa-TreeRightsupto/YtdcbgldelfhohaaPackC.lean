/- lampbearerref.routes: a fork. -/
import Derived.Test.YtdcbgldelfhohaaPackB
import Derived.Test.YtdcbgldelfhohaaPackA
import Derived.Deep.Cut
import Derived.Deep.MidRow
namespace Go.Proofs.Ytdcbgldelfhohaa
namespace Tr
open Nb Go.RowKit
theorem wpList_apw {P : Program} {ops : Array Oper} {rest : List Oper} {o : Oper} {a : Act} {Q : Exit → Act → World → Prop} {s x : Operand} {t u : TypeId} {v v2 v' : Value} {w w' : World} (hgd : o.guard = none) (ho : o.op = .call { callee := .builtin .append, args := #[s, x], argTypes := #[t, u] }) (hs : a.eval s = v) (hx : a.eval x = v2)
    (hr : (Builtin.append_ #[t, u] o.type #[v, v2]).run P w = .ok v' w') (h : wpList P ops Q rest (a.put o.dst v') w') : wpList P ops Q (o :: rest) a w := by
  refine wpList_plain hgd fun _ hK => ?_
  unfold Oper.wp execOp
  simp only [ho, resolve, invoke, builtin, Sem.run_bind, Sem.run_pure, Result.andThen_ok, List.map_toArray, List.map_cons, List.map_nil, hs, hx, hr]
  exact hK _ _ h
theorem pre_pre (p q : By) (l : Rt) : pre p (pre q l) = pre (p ++ q) l := by
  unfold pre
  rw [List.map_map]
  apply List.map_congr_left
  intro r _
  show (p ++ (q ++ r.1), r.2) = (p ++ q ++ r.1, r.2)
  rw [List.append_assoc]
theorem pre_app (p : By) (a b : Rt) : pre p (a ++ b) = pre p a ++ pre p b := by simp [pre]
theorem pre_len' (p : By) (a : Rt) : (pre p a).length = a.length := by simp [pre]
theorem rtk_snoc (t : Nd) : ∀ (ks : List Nd) (i : Nat), rtk i (ks ++ [t]) = match rtk i ks, rt t with
    | some L, some a => some (L ++ pre [UInt8.ofNat (i + ks.length)] a)
    | _, _ => none
  | [], i => by
    show rtk i [t] = _
    unfold rtk
    cases h : rt t with
    | none => simp
    | some a => simp [rtk]
  | k :: ks, i => by
    rw [List.cons_append]
    unfold rtk
    rw [rtk_snoc t ks (i + 1)]
    cases rt k with
    | none => rfl
    | some a =>
      cases rtk (i + 1) ks with
      | none => rfl
      | some L =>
        cases rt t with
        | none => rfl
        | some b =>
          show some (pre [UInt8.ofNat i] a ++ (L ++ pre [UInt8.ofNat (i + 1 + ks.length)] b)) = some ((pre [UInt8.ofNat i] a ++ L) ++ pre [UInt8.ofNat (i + (k :: ks).length)] b)
          rw [List.append_assoc, List.length_cons, show i + 1 + ks.length = i + (ks.length + 1) by omega]
theorem rtk_bad : ∀ (ks : List Nd) (i k : Nat), k < ks.length → rt (ks.getD k Nd.no) = none → rtk i ks = none
  | [], _, k, h, _ => absurd h (by simp)
  | t :: r, i, 0, _, h => by
    rw [List.getD_cons_zero] at h
    unfold rtk
    rw [h]
  | t :: r, i, k + 1, hk, h => by
    rw [List.getD_cons_succ] at h
    have := rtk_bad r (i + 1) k (by simpa using hk) h
    unfold rtk
    rw [this]
    cases rt t <;> rfl
theorem rtk_take (ks : List Nd) (k : Nat) (hk : k < ks.length) (L a : Rt) (hL : rtk 0 (ks.take k) = some L) (ha : rt (ks.getD k Nd.no) = some a) : rtk 0 (ks.take (k + 1)) = some (L ++ pre [UInt8.ofNat k] a) := by
  have e : ks.take (k + 1) = ks.take k ++ [ks.getD k Nd.no] := by
    rw [List.take_add_one, List.getD_eq_getElem?_getD, List.getElem?_eq_getElem hk]
    rfl
  rw [e, rtk_snoc, hL, ha, List.length_take, show 0 + min k ks.length = k by omega]
theorem rt_three (p v : By) (ks : List Nd) (hl : ks.length = 16) : rt (.mk 3 p v ks) = (rtk 0 ks).map fun l => (if v = [] then [] else [([], v)]) ++ l := by
  rw [rt, if_neg (fun h => by rcases h.1 with h | h <;> exact absurd h (by decide)), if_neg (by decide), if_neg (by decide), if_neg (fun h => absurd h.1 (by decide)), if_pos ⟨rfl, hl⟩]
theorem lit_b (k : Nat) (h : k < 16) (w : World) : Pk.Sl [UInt8.ofNat k] (.slice (some ⟨w.heap.size, 0, none⟩) 1 1) (w.alloc (.cells #[.int .u8 (k : Int)] 5)) := by
  have HA := heap_alloc_new w (.cells #[.int .u8 (k : Int)] 5)
  refine ⟨_, _, rfl, Nat.le_refl _, fun _ => ⟨_, _, rfl, by simp, fun j hj => ?_⟩⟩
  have e : j = 0 := by simpa using hj
  subst e
  have e2 : Sp.bz [UInt8.ofNat k] 0 = (k : Int) := by
    show (((UInt8.ofNat k).toNat : Nat) : Int) = _
    rw [u8_toNat k h]
  rw [e2]
  simp only [World.cell?, HA]
  rfl
/-- What routes answers. -/
def RT (t : Nd) (P : By) (e : Ending) (w : World) : Prop := (∃ l x, rt t = some l ∧ e = .returned (.tuple #[x, .bool true]) ∧ Rv (pre P l) x w) ∨ (rt t = none ∧ e = .returned (.tuple #[.slice none 0 0, .bool false]))
set_option maxHeartbeats 1000000 in
set_option maxRecDepth 100000 in
theorem rt_fork_v (a1 a2 : Option Addr) (n1 c1 n2 c2 c3 : Nat) (P : By) (w : World) (p : By) (hz : Hid (n1 ≤ 4194304)) (hp : Hid (Pk.Sl p (.slice a1 n1 c1) w)) (v : By) (hv : Hid (Pk.Sl v (.slice a2 n2 c2) w)) (hv2 : Hid (n2 = v.length)) (hP : P.length ≤ 4194304) (S : Nat → Prop) (ks : List Nd) (vs : List V4) (gk off : Nat) (hl : Hid (ks.length = 16)) (hl2 : Hid (vs.length = 16)) (hk : Hid (Ks S vs (.slice (some ⟨gk, off, none⟩) 16 c3) w)) (hi : Hid (∀ j, j < 16 → Nv S w (ks.getD j Nd.no) (vs.getD j n4)))
    (KR : Hid (∀ j, j < 16 → ∀ (u : V4) (wx : World), Nv S wx (ks.getD j Nd.no) u → Calls Try.prog 23 #[v4 u, .string (st (P ++ [UInt8.ofNat j]))] wx fun e w' => RT (ks.getD j Nd.no) (P ++ [UInt8.ofNat j]) e w' ∧ Below wx.heap.size wx w')) (HN : Hid (∀ j L a, j < 16 → rtk 0 (ks.take j) = some L → rt (ks.getD j Nd.no) = some a → 1 + L.length + a.length ≤ 4194304)) (hne : Hid (v ≠ [])) :
    Calls Try.prog 23 #[.agg #[.int .i64 3, .slice a1 n1 c1, .slice a2 n2 c2, .slice (some ⟨gk, off, none⟩) 16 c3], .string (st P)] w fun e w' => RT (.mk 3 p v ks) P e w' ∧ Below w.heap.size w w' := by
  have B0 : Below w.heap.size w (w.alloc (.cells #[.int .i64 3, .slice a1 n1 c1, .slice a2 n2 c2, .slice (some ⟨gk, off, none⟩) 16 c3] 25)) := (Below.refl _ _).alloc (Nat.le_refl _) _
  have HA := heap_alloc_new w (.cells #[.int .i64 3, .slice a1 n1 c1, .slice a2 n2 c2, .slice (some ⟨gk, off, none⟩) 16 c3] 25)
  have q0 : (w.alloc (.cells #[.int .i64 3, .slice a1 n1 c1, .slice a2 n2 c2, .slice (some ⟨gk, off, none⟩) 16 c3] 25)).cell? ⟨w.heap.size, 0, none⟩ = some (.int .i64 3) := by simp only [World.cell?, HA]; rfl
  have q1 : (w.alloc (.cells #[.int .i64 3, .slice a1 n1 c1, .slice a2 n2 c2, .slice (some ⟨gk, off, none⟩) 16 c3] 25)).cell? ⟨w.heap.size, 1, none⟩ = some (.slice a1 n1 c1) := by simp only [World.cell?, HA]; rfl
  have q2 : (w.alloc (.cells #[.int .i64 3, .slice a1 n1 c1, .slice a2 n2 c2, .slice (some ⟨gk, off, none⟩) 16 c3] 25)).cell? ⟨w.heap.size, 2, none⟩ = some (.slice a2 n2 c2) := by simp only [World.cell?, HA]; rfl
  have q3 : (w.alloc (.cells #[.int .i64 3, .slice a1 n1 c1, .slice a2 n2 c2, .slice (some ⟨gk, off, none⟩) 16 c3] 25)).cell? ⟨w.heap.size, 3, none⟩ = some (.slice (some ⟨gk, off, none⟩) 16 c3) := by simp only [World.cell?, HA]; rfl
  have hh : w.heap.size < (w.alloc (.cells #[.int .i64 3, .slice a1 n1 c1, .slice a2 n2 c2, .slice (some ⟨gk, off, none⟩) 16 c3] 25)).heap.size := by simp
  have SP : Hid (Pk.Sl p (.slice a1 n1 c1) (w.alloc (.cells #[.int .i64 3, .slice a1 n1 c1, .slice a2 n2 c2, .slice (some ⟨gk, off, none⟩) 16 c3] 25))) := Pk.Sl_below hp.out B0
  clear HA
  have SV : Hid (Pk.Sl v (.slice a2 n2 c2) (w.alloc (.cells #[.int .i64 3, .slice a1 n1 c1, .slice a2 n2 c2, .slice (some ⟨gk, off, none⟩) 16 c3] 25))) := Pk.Sl_below hv.out B0
  have HCP : Hid (∀ (j : Nat) (W : World), (Op.stringOp .add (st P) (st [UInt8.ofNat j])).run Try.prog W = .ok (.string (st (P ++ [UInt8.ofNat j]))) W) := fun j W => cat_st P _ (by simp; omega) W
  have BW : Hid (Below w.heap.size w (w.alloc (.cells #[.int .i64 3, .slice a1 n1 c1, .slice a2 n2 c2, .slice (some ⟨gk, off, none⟩) 16 c3] 25))) := B0
  have f2 : (0 : Int) < (n2 : Int) := by have := List.length_pos_iff.2 hne.out; have := hv2.out; omega
  have f3 : decide ((0 : Int) < (n2 : Int)) = true := decide_eq_true f2
  go_enter Try.func23, Try.ntmps23
  go_wp2_with fail
  generalize (w.alloc (.cells #[.int .i64 3, .slice a1 n1 c1, .slice a2 n2 c2, .slice (some ⟨gk, off, none⟩) 16 c3] 25)) = W0 at *
  generalize hg0 : w.heap.size = g0 at *
  go_loopw [16] (fun i wr => ∃ j : Nat, j ≤ n1 ∧ i = .int .i64 (j : Int) ∧ wr = W0) (fun i _ => ((n1 : Int) - intOf i).toNat)
  case atStart => exact ⟨0, Nat.zero_le _, rfl, rfl⟩
  case round =>
    obtain ⟨j, hj, rfl, rfl⟩ := hrel
    by_cases hlt : j < n1
    · have d0 : decide ((j : Int) < (n1 : Int)) = true := decide_eq_true (by omega)
      have d1 : (0 : Int) ≤ (j : Int) := by omega
      have d2 : (j : Int) < (n1 : Int) := by omega
      obtain ⟨ao, cap, e2, -, hq⟩ := SP.out
      injection e2 with e2 e3 e4
      subst e2
      obtain ⟨gp, off, rfl, hgp, hcell⟩ := hq (by omega)
      have x0 := hcell j (by omega)
      have e5 : Hid (wrap64 ((j : Int) + 1) = ((j + 1 : Nat) : Int)) := by have := hz.out; show _ = _; unfold wrap64; omega
      clear hq hcell e3 e4
      go_wp2_with fail
      rw [e5.out]
      exact ⟨⟨j + 1, by omega, rfl, by trivial⟩, msr_up j n1 hlt⟩
    · have d0 : decide ((j : Int) < (n1 : Int)) = false := decide_eq_false (by omega)
      obtain ⟨v1, w1, hap, ho1, hb1, -⟩ := app_rv (lo := wr.heap.size) (x := []) 47 (World.ownsRow_nil _ _ _ _) (lit_rv (P, v) wr) (by simp) (by simp)
      have x2 := Sl_st SV.out
      have O1 : Hid (Ow wr.heap.size (pre P ([([], v)] ++ [])) v1 w1) := by
        have e : pre P ([([], v)] ++ []) = [] ++ [(P, v)] := by simp [pre]
        show Ow _ _ _ _
        rw [e]
        exact ho1
      have bA : Below wr.heap.size wr (wr.alloc (.cells #[.string (st P), .string (st v)] 51)) := (Below.refl _ _).alloc (Nat.le_refl _) _
      have B1 : Hid (Below wr.heap.size wr w1) := bA.trans hb1
      have q3' := (B1.out.cell (p := ⟨g0, 3, none⟩) hh).trans q3
      have hh' : g0 < w1.heap.size := Nat.lt_of_lt_of_le hh B1.out.size
      obtain ⟨oa, on, oc, rfl⟩ := own_slice ho1
      clear ho1 hb1 bA
      generalize st v = Z at *
      go_upto_region 16 with fail
      go_wp2_with (at_builtin; refine wpList_apw rfl rfl rfl rfl hap ?_)
      clear hap x2
      generalize hWa : wr = Wa at *
      go_loopw [8, 98] (fun o i w2 => ∃ (k : Nat) (L : Rt), k ≤ 16 ∧ i = .int .i64 (k : Int) ∧ rtk 0 (ks.take k) = some L ∧ Ow Wa.heap.size (pre P ([([], v)] ++ L)) o w2 ∧ Below Wa.heap.size Wa w2) (fun _ i _ => ((16 : Int) - intOf i).toNat)
      case atStart => exact ⟨0, [], by omega, rfl, by unfold rtk; rfl, O1.out, B1.out⟩
      case round =>
        obtain ⟨k, L, hk16, rfl, hL, ho, hB⟩ := hrel
        have RTS : Hid (rt (.mk 3 p v ks) = (rtk 0 ks).map fun l => [([], v)] ++ l) := by
          show _ = _
          rw [rt_three p v ks hl.out]
          rw [if_neg hne.out]
        by_cases hkl : k < 16
        · have t0 : decide ((k : Int) < 16) = true := decide_eq_true (by omega)
          have t1 : (0 : Int) ≤ (k : Int) := by omega
          have t2 : (k : Int) < 16 := by omega
          have BWw : Below w.heap.size w wr := (hg0 ▸ BW.out).trans (hB.mono (hg0 ▸ BW.out).size)
          obtain ⟨ao, cap, e2, -, hq⟩ := hk.out
          obtain ⟨gk', off', e3, -, hgk, hcell⟩ := hq (by have := hl2.out; omega)
          injection e2 with e2 e4 e5
          rw [e3] at e2
          injection e2 with e2
          injection e2 with e6 e7
          subst e6 e7
          clear e3 e4 e5
          obtain ⟨x0, x1, x2, x3⟩ := hcell k (by have := hl2.out; omega)
          have iv := hi.out k hkl
          obtain ⟨q, b1, m1, d1, b2, m2, d2, b3, m3, d3, ev⟩ := Nv_form iv
          rw [ev] at x0 x1 x2 x3 iv
          have z0 := (BWw.cell (p := ⟨gk, off + 4 * k, none⟩) hgk).trans x0
          have z1 := (BWw.cell (p := ⟨gk, off + 4 * k + 1, none⟩) hgk).trans x1
          have z2 := (BWw.cell (p := ⟨gk, off + 4 * k + 2, none⟩) hgk).trans x2
          have z3 := (BWw.cell (p := ⟨gk, off + 4 * k + 3, none⟩) hgk).trans x3
          have hgk2 : gk < wr.heap.size := Nat.lt_of_lt_of_le hgk BWw.size
          rw [Nat.mul_comm 4 k] at z0 z1 z2 z3
          have bA : Below wr.heap.size wr (wr.alloc (.cells #[.int .i64 q, .slice b1 m1 d1, .slice b2 m2 d2, .slice b3 m3 d3] 25)) := (Below.refl _ _).alloc (Nat.le_refl _) _
          have IV : Hid (Nv S (wr.alloc (.cells #[.int .i64 q, .slice b1 m1 d1, .slice b2 m2 d2, .slice b3 m3 d3] 25)) (ks.getD k Nd.no) (.int .i64 q, .slice b1 m1 d1, .slice b2 m2 d2, .slice b3 m3 d3)) := Nv_below (Nv_below iv BWw) bA
          have OW : Hid (Ow Wa.heap.size (pre P ([([], v)] ++ L)) _ (wr.alloc (.cells #[.int .i64 q, .slice b1 m1 d1, .slice b2 m2 d2, .slice b3 m3 d3] 25))) := Pk.ownb ho bA
          have BX : Hid (Bx wr.heap.size (.int .i64 q, .slice b1 m1 d1, .slice b2 m2 d2, .slice b3 m3 d3) (wr.alloc (.cells #[.int .i64 q, .slice b1 m1 d1, .slice b2 m2 d2, .slice b3 m3 d3] 25))) := Bx_new wr (.int .i64 q, .slice b1 m1 d1, .slice b2 m2 d2, .slice b3 m3 d3)
          have BB : Hid (Below Wa.heap.size Wa (wr.alloc (.cells #[.int .i64 q, .slice b1 m1 d1, .slice b2 m2 d2, .slice b3 m3 d3] 25))) := hB.trans (bA.mono hB.size)
          have KB : Hid (∀ wx : World, Nv S wx (ks.getD k Nd.no) (.int .i64 q, .slice b1 m1 d1, .slice b2 m2 d2, .slice b3 m3 d3) → Calls Try.prog 23 #[.agg #[.int .i64 q, .slice b1 m1 d1, .slice b2 m2 d2, .slice b3 m3 d3], .string (st (P ++ [UInt8.ofNat k]))] wx fun e w' => RT (ks.getD k Nd.no) (P ++ [UInt8.ofNat k]) e w' ∧ Below wx.heap.size wx w') := fun wx h => KR.out k hkl (.int .i64 q, .slice b1 m1 d1, .slice b2 m2 d2, .slice b3 m3 d3) wx h
          have e8 : IntKind.u8.wrap (k : Int) = (k : Int) := by rw [IntKind.wrap_u8]; omega
          have e9 : Hid (wrap64 ((k : Int) + 1) = ((k + 1 : Nat) : Int)) := by show _ = _; unfold wrap64; omega
          obtain ⟨oa2, on2, oc2, rfl⟩ := own_slice ho
          have HLK : Hid (rtk 0 (ks.take k) = some L) := hL
          clear hq hcell x0 x1 x2 x3 ev iv BWw bA ho hB hL
          go_upto_region 20 with fail
          generalize wr.alloc (.cells #[.int .i64 q, .slice b1 m1 d1, .slice b2 m2 d2, .slice b3 m3 d3] 25) = W1 at *
          generalize wr.heap.size = h10 at *
          obtain ⟨hx, y0, y1, y2, y3⟩ := BX.out
          dsimp only at y0 y1 y2 y3
          have bC : Below W1.heap.size W1 (W1.alloc (.cells #[.int .u8 (k : Int)] 5)) := (Below.refl _ _).alloc (Nat.le_refl _) _
          have hcs := Sl_st (lit_b k hkl W1)
          have hcc := HCP.out k (W1.alloc (.cells #[.int .u8 (k : Int)] 5))
          have KK : Hid _ := KB.out _ (Nv_below IV.out bC)
          have OW2 : Hid (Ow _ _ _ _) := Pk.ownb OW.out bC
          have BB2 : Hid (Below Wa.heap.size Wa _) := BB.out.trans (bC.mono BB.out.size)
          clear BX KB IV bC OW BB
          generalize st (P ++ [UInt8.ofNat k]) = Y at *
          generalize st [UInt8.ofNat k] = C at *
          go_wp2_with fail
          refine Calls.mono KK.out (fun e w5 he => ?_)
          obtain ⟨hr, b5⟩ := he
          rcases hr with ⟨l, x, hrt, rfl, hrv⟩ | ⟨hrt, rfl⟩
          · have o5 := Pk.ownb OW2.out b5
            obtain ⟨v6, w6, hap, ho6, hb6, -⟩ := app_rv 47 o5 hrv (Nat.le_trans BB2.out.size b5.size) (by
              have := HN.out k L l hkl HLK.out hrt
              rw [pre_len', pre_len', List.length_append]
              simp only [List.length_cons, List.length_nil]
              omega)
            have B6 : Hid (Below Wa.heap.size Wa w6) := (BB2.out.trans (b5.mono BB2.out.size)).trans hb6
            have O6 : Hid (Ow Wa.heap.size (pre P ([([], v)] ++ (L ++ pre [UInt8.ofNat k] l))) v6 w6) := by
              have e : pre P ([([], v)] ++ (L ++ pre [UInt8.ofNat k] l)) = pre P ([([], v)] ++ L) ++ pre (P ++ [UInt8.ofNat k]) l := by rw [← List.append_assoc, pre_app, pre_pre]
              show Ow _ _ _ _
              rw [e]
              exact ho6
            have R6 : Hid (rtk 0 (ks.take (k + 1)) = some (L ++ pre [UInt8.ofNat k] l)) := rtk_take ks k (by have := hl.out; omega) L l HLK.out hrt
            obtain ⟨ax, cx, rfl, -, -⟩ := hrv
            obtain ⟨oa6, on6, oc6, rfl⟩ := own_slice ho6
            generalize (pre (P ++ [UInt8.ofNat k]) l).length = nx at *
            clear KK OW2 BB2 o5 b5 ho6 hb6 hrt HLK
            go_wp2_with (at_builtin; refine wpList_apw rfl rfl rfl rfl hap ?_)
            first | rw [e9.out] | rw [show (k : Int) + 1 = ((k + 1 : Nat) : Int) from by omega]
            exact ⟨⟨k + 1, L ++ pre [UInt8.ofNat k] l, by omega, rfl, R6.out, O6.out, B6.out⟩, msr_up k 16 hkl⟩
          · have B6 : Hid (Below w.heap.size w w5) := by
              show Below _ _ _
              have h1 := BB2.out.trans (b5.mono BB2.out.size)
              exact (hg0 ▸ BW.out).trans (h1.mono (hg0 ▸ BW.out).size)
            have R6 : Hid (rt (.mk 3 p v ks) = none) := by
              show _ = _
              rw [RTS.out, rtk_bad ks 0 k (by have := hl.out; omega) hrt]
              rfl
            clear KK OW2 BB2 b5 hrt HLK
            go_wp2_with fail
            go_ret2
            exact ⟨.inr ⟨R6.out, rfl⟩, by first | exact B6.out | (rw [← hg0]; exact B6.out)⟩
        · have t0 : decide ((k : Int) < 16) = false := decide_eq_false (by omega)
          have ek : ks.take k = ks := List.take_of_length_le (by have := hl.out; omega)
          rw [ek] at hL
          have R6 : Hid (rt (.mk 3 p v ks) = some ([([], v)] ++ L)) := by
            show _ = _
            rw [RTS.out, hL]
            rfl
          have RV : Hid (Rv (pre P ([([], v)] ++ L)) _ wr) := own_rv ho
          have B6 : Hid (Below w.heap.size w wr) := (hg0 ▸ BW.out).trans (hB.mono (hg0 ▸ BW.out).size)
          obtain ⟨oa2, on2, oc2, rfl⟩ := own_slice ho
          clear ho hL hB
          go_wp2_with fail
          go_ret2
          exact ⟨.inl ⟨_, _, R6.out, rfl, RV.out⟩, by first | exact B6.out | (rw [← hg0]; exact B6.out)⟩
set_option maxHeartbeats 1000000 in
set_option maxRecDepth 100000 in
theorem rt_fork_e (a1 a2 : Option Addr) (n1 c1 n2 c2 c3 : Nat) (P : By) (w : World) (p : By) (hz : Hid (n1 ≤ 4194304)) (hp : Hid (Pk.Sl p (.slice a1 n1 c1) w)) (v : By) (hv : Hid (Pk.Sl v (.slice a2 n2 c2) w)) (hv2 : Hid (n2 = v.length)) (hP : P.length ≤ 4194304) (S : Nat → Prop) (ks : List Nd) (vs : List V4) (gk off : Nat) (hl : Hid (ks.length = 16)) (hl2 : Hid (vs.length = 16)) (hk : Hid (Ks S vs (.slice (some ⟨gk, off, none⟩) 16 c3) w)) (hi : Hid (∀ j, j < 16 → Nv S w (ks.getD j Nd.no) (vs.getD j n4)))
    (KR : Hid (∀ j, j < 16 → ∀ (u : V4) (wx : World), Nv S wx (ks.getD j Nd.no) u → Calls Try.prog 23 #[v4 u, .string (st (P ++ [UInt8.ofNat j]))] wx fun e w' => RT (ks.getD j Nd.no) (P ++ [UInt8.ofNat j]) e w' ∧ Below wx.heap.size wx w')) (HN : Hid (∀ j L a, j < 16 → rtk 0 (ks.take j) = some L → rt (ks.getD j Nd.no) = some a → 1 + L.length + a.length ≤ 4194304)) (he : Hid (v = [])) :
    Calls Try.prog 23 #[.agg #[.int .i64 3, .slice a1 n1 c1, .slice a2 n2 c2, .slice (some ⟨gk, off, none⟩) 16 c3], .string (st P)] w fun e w' => RT (.mk 3 p v ks) P e w' ∧ Below w.heap.size w w' := by
  have B0 : Below w.heap.size w (w.alloc (.cells #[.int .i64 3, .slice a1 n1 c1, .slice a2 n2 c2, .slice (some ⟨gk, off, none⟩) 16 c3] 25)) := (Below.refl _ _).alloc (Nat.le_refl _) _
  have HA := heap_alloc_new w (.cells #[.int .i64 3, .slice a1 n1 c1, .slice a2 n2 c2, .slice (some ⟨gk, off, none⟩) 16 c3] 25)
  have q0 : (w.alloc (.cells #[.int .i64 3, .slice a1 n1 c1, .slice a2 n2 c2, .slice (some ⟨gk, off, none⟩) 16 c3] 25)).cell? ⟨w.heap.size, 0, none⟩ = some (.int .i64 3) := by simp only [World.cell?, HA]; rfl
  have q1 : (w.alloc (.cells #[.int .i64 3, .slice a1 n1 c1, .slice a2 n2 c2, .slice (some ⟨gk, off, none⟩) 16 c3] 25)).cell? ⟨w.heap.size, 1, none⟩ = some (.slice a1 n1 c1) := by simp only [World.cell?, HA]; rfl
  have q2 : (w.alloc (.cells #[.int .i64 3, .slice a1 n1 c1, .slice a2 n2 c2, .slice (some ⟨gk, off, none⟩) 16 c3] 25)).cell? ⟨w.heap.size, 2, none⟩ = some (.slice a2 n2 c2) := by simp only [World.cell?, HA]; rfl
  have q3 : (w.alloc (.cells #[.int .i64 3, .slice a1 n1 c1, .slice a2 n2 c2, .slice (some ⟨gk, off, none⟩) 16 c3] 25)).cell? ⟨w.heap.size, 3, none⟩ = some (.slice (some ⟨gk, off, none⟩) 16 c3) := by simp only [World.cell?, HA]; rfl
  have hh : w.heap.size < (w.alloc (.cells #[.int .i64 3, .slice a1 n1 c1, .slice a2 n2 c2, .slice (some ⟨gk, off, none⟩) 16 c3] 25)).heap.size := by simp
  have SP : Hid (Pk.Sl p (.slice a1 n1 c1) (w.alloc (.cells #[.int .i64 3, .slice a1 n1 c1, .slice a2 n2 c2, .slice (some ⟨gk, off, none⟩) 16 c3] 25))) := Pk.Sl_below hp.out B0
  clear HA
  have SV : Hid (Pk.Sl v (.slice a2 n2 c2) (w.alloc (.cells #[.int .i64 3, .slice a1 n1 c1, .slice a2 n2 c2, .slice (some ⟨gk, off, none⟩) 16 c3] 25))) := Pk.Sl_below hv.out B0
  have HCP : Hid (∀ (j : Nat) (W : World), (Op.stringOp .add (st P) (st [UInt8.ofNat j])).run Try.prog W = .ok (.string (st (P ++ [UInt8.ofNat j]))) W) := fun j W => cat_st P _ (by simp; omega) W
  have BW : Hid (Below w.heap.size w (w.alloc (.cells #[.int .i64 3, .slice a1 n1 c1, .slice a2 n2 c2, .slice (some ⟨gk, off, none⟩) 16 c3] 25))) := B0
  have f1 : n2 = 0 := by rw [hv2.out, he.out]; rfl
  have f2 : ¬ (0 : Int) < (n2 : Int) := by omega
  have f3 : decide ((0 : Int) < (n2 : Int)) = false := decide_eq_false f2
  have f4 : decide (0 < n2) = false := decide_eq_false (by omega)
  clear f1
  go_enter Try.func23, Try.ntmps23
  go_wp2_with fail
  generalize (w.alloc (.cells #[.int .i64 3, .slice a1 n1 c1, .slice a2 n2 c2, .slice (some ⟨gk, off, none⟩) 16 c3] 25)) = W0 at *
  generalize hg0 : w.heap.size = g0 at *
  go_loopw [16] (fun i wr => ∃ j : Nat, j ≤ n1 ∧ i = .int .i64 (j : Int) ∧ wr = W0) (fun i _ => ((n1 : Int) - intOf i).toNat)
  case atStart => exact ⟨0, Nat.zero_le _, rfl, rfl⟩
  case round =>
    obtain ⟨j, hj, rfl, rfl⟩ := hrel
    by_cases hlt : j < n1
    · have d0 : decide ((j : Int) < (n1 : Int)) = true := decide_eq_true (by omega)
      have d1 : (0 : Int) ≤ (j : Int) := by omega
      have d2 : (j : Int) < (n1 : Int) := by omega
      obtain ⟨ao, cap, e2, -, hq⟩ := SP.out
      injection e2 with e2 e3 e4
      subst e2
      obtain ⟨gp, off, rfl, hgp, hcell⟩ := hq (by omega)
      have x0 := hcell j (by omega)
      have e5 : Hid (wrap64 ((j : Int) + 1) = ((j + 1 : Nat) : Int)) := by have := hz.out; show _ = _; unfold wrap64; omega
      clear hq hcell e3 e4
      go_wp2_with fail
      rw [e5.out]
      exact ⟨⟨j + 1, by omega, rfl, by trivial⟩, msr_up j n1 hlt⟩
    · have d0 : decide ((j : Int) < (n1 : Int)) = false := decide_eq_false (by omega)
      have O1 : Hid (Ow wr.heap.size (pre P (([] : Rt) ++ [])) (.slice none 0 0) wr) := World.ownsRow_nil _ _ _ _
      have B1 : Hid (Below wr.heap.size wr wr) := Below.refl _ _
      go_wp2_with fail
      clear f2 f3 f4
      generalize hWa : wr = Wa at *
      go_loopw [8, 98] (fun o i w2 => ∃ (k : Nat) (L : Rt), k ≤ 16 ∧ i = .int .i64 (k : Int) ∧ rtk 0 (ks.take k) = some L ∧ Ow Wa.heap.size (pre P (([] : Rt) ++ L)) o w2 ∧ Below Wa.heap.size Wa w2) (fun _ i _ => ((16 : Int) - intOf i).toNat)
      case atStart => exact ⟨0, [], by omega, rfl, by unfold rtk; rfl, O1.out, B1.out⟩
      case round =>
        obtain ⟨k, L, hk16, rfl, hL, ho, hB⟩ := hrel
        have RTS : Hid (rt (.mk 3 p v ks) = (rtk 0 ks).map fun l => ([] : Rt) ++ l) := by
          show _ = _
          rw [rt_three p v ks hl.out]
          rw [if_pos he.out]
        by_cases hkl : k < 16
        · have t0 : decide ((k : Int) < 16) = true := decide_eq_true (by omega)
          have t1 : (0 : Int) ≤ (k : Int) := by omega
          have t2 : (k : Int) < 16 := by omega
          have BWw : Below w.heap.size w wr := (hg0 ▸ BW.out).trans (hB.mono (hg0 ▸ BW.out).size)
          obtain ⟨ao, cap, e2, -, hq⟩ := hk.out
          obtain ⟨gk', off', e3, -, hgk, hcell⟩ := hq (by have := hl2.out; omega)
          injection e2 with e2 e4 e5
          rw [e3] at e2
          injection e2 with e2
          injection e2 with e6 e7
          subst e6 e7
          clear e3 e4 e5
          obtain ⟨x0, x1, x2, x3⟩ := hcell k (by have := hl2.out; omega)
          have iv := hi.out k hkl
          obtain ⟨q, b1, m1, d1, b2, m2, d2, b3, m3, d3, ev⟩ := Nv_form iv
          rw [ev] at x0 x1 x2 x3 iv
          have z0 := (BWw.cell (p := ⟨gk, off + 4 * k, none⟩) hgk).trans x0
          have z1 := (BWw.cell (p := ⟨gk, off + 4 * k + 1, none⟩) hgk).trans x1
          have z2 := (BWw.cell (p := ⟨gk, off + 4 * k + 2, none⟩) hgk).trans x2
          have z3 := (BWw.cell (p := ⟨gk, off + 4 * k + 3, none⟩) hgk).trans x3
          have hgk2 : gk < wr.heap.size := Nat.lt_of_lt_of_le hgk BWw.size
          rw [Nat.mul_comm 4 k] at z0 z1 z2 z3
          have bA : Below wr.heap.size wr (wr.alloc (.cells #[.int .i64 q, .slice b1 m1 d1, .slice b2 m2 d2, .slice b3 m3 d3] 25)) := (Below.refl _ _).alloc (Nat.le_refl _) _
          have IV : Hid (Nv S (wr.alloc (.cells #[.int .i64 q, .slice b1 m1 d1, .slice b2 m2 d2, .slice b3 m3 d3] 25)) (ks.getD k Nd.no) (.int .i64 q, .slice b1 m1 d1, .slice b2 m2 d2, .slice b3 m3 d3)) := Nv_below (Nv_below iv BWw) bA
          have OW : Hid (Ow Wa.heap.size (pre P (([] : Rt) ++ L)) _ (wr.alloc (.cells #[.int .i64 q, .slice b1 m1 d1, .slice b2 m2 d2, .slice b3 m3 d3] 25))) := Pk.ownb ho bA
          have BX : Hid (Bx wr.heap.size (.int .i64 q, .slice b1 m1 d1, .slice b2 m2 d2, .slice b3 m3 d3) (wr.alloc (.cells #[.int .i64 q, .slice b1 m1 d1, .slice b2 m2 d2, .slice b3 m3 d3] 25))) := Bx_new wr (.int .i64 q, .slice b1 m1 d1, .slice b2 m2 d2, .slice b3 m3 d3)
          have BB : Hid (Below Wa.heap.size Wa (wr.alloc (.cells #[.int .i64 q, .slice b1 m1 d1, .slice b2 m2 d2, .slice b3 m3 d3] 25))) := hB.trans (bA.mono hB.size)
          have KB : Hid (∀ wx : World, Nv S wx (ks.getD k Nd.no) (.int .i64 q, .slice b1 m1 d1, .slice b2 m2 d2, .slice b3 m3 d3) → Calls Try.prog 23 #[.agg #[.int .i64 q, .slice b1 m1 d1, .slice b2 m2 d2, .slice b3 m3 d3], .string (st (P ++ [UInt8.ofNat k]))] wx fun e w' => RT (ks.getD k Nd.no) (P ++ [UInt8.ofNat k]) e w' ∧ Below wx.heap.size wx w') := fun wx h => KR.out k hkl (.int .i64 q, .slice b1 m1 d1, .slice b2 m2 d2, .slice b3 m3 d3) wx h
          have e8 : IntKind.u8.wrap (k : Int) = (k : Int) := by rw [IntKind.wrap_u8]; omega
          have e9 : Hid (wrap64 ((k : Int) + 1) = ((k + 1 : Nat) : Int)) := by show _ = _; unfold wrap64; omega
          obtain ⟨oa2, on2, oc2, rfl⟩ := own_slice ho
          have HLK : Hid (rtk 0 (ks.take k) = some L) := hL
          clear hq hcell x0 x1 x2 x3 ev iv BWw bA ho hB hL
          go_upto_region 20 with fail
          generalize wr.alloc (.cells #[.int .i64 q, .slice b1 m1 d1, .slice b2 m2 d2, .slice b3 m3 d3] 25) = W1 at *
          generalize wr.heap.size = h10 at *
          obtain ⟨hx, y0, y1, y2, y3⟩ := BX.out
          dsimp only at y0 y1 y2 y3
          have bC : Below W1.heap.size W1 (W1.alloc (.cells #[.int .u8 (k : Int)] 5)) := (Below.refl _ _).alloc (Nat.le_refl _) _
          have hcs := Sl_st (lit_b k hkl W1)
          have hcc := HCP.out k (W1.alloc (.cells #[.int .u8 (k : Int)] 5))
          have KK : Hid _ := KB.out _ (Nv_below IV.out bC)
          have OW2 : Hid (Ow _ _ _ _) := Pk.ownb OW.out bC
          have BB2 : Hid (Below Wa.heap.size Wa _) := BB.out.trans (bC.mono BB.out.size)
          clear BX KB IV bC OW BB
          generalize st (P ++ [UInt8.ofNat k]) = Y at *
          generalize st [UInt8.ofNat k] = C at *
          go_wp2_with fail
          refine Calls.mono KK.out (fun e w5 he => ?_)
          obtain ⟨hr, b5⟩ := he
          rcases hr with ⟨l, x, hrt, rfl, hrv⟩ | ⟨hrt, rfl⟩
          · have o5 := Pk.ownb OW2.out b5
            obtain ⟨v6, w6, hap, ho6, hb6, -⟩ := app_rv 47 o5 hrv (Nat.le_trans BB2.out.size b5.size) (by
              have := HN.out k L l hkl HLK.out hrt
              rw [pre_len', pre_len', List.length_append]
              simp only [List.length_nil]
              omega)
            have B6 : Hid (Below Wa.heap.size Wa w6) := (BB2.out.trans (b5.mono BB2.out.size)).trans hb6
            have O6 : Hid (Ow Wa.heap.size (pre P (([] : Rt) ++ (L ++ pre [UInt8.ofNat k] l))) v6 w6) := by
              have e : pre P (([] : Rt) ++ (L ++ pre [UInt8.ofNat k] l)) = pre P (([] : Rt) ++ L) ++ pre (P ++ [UInt8.ofNat k]) l := by rw [← List.append_assoc, pre_app, pre_pre]
              show Ow _ _ _ _
              rw [e]
              exact ho6
            have R6 : Hid (rtk 0 (ks.take (k + 1)) = some (L ++ pre [UInt8.ofNat k] l)) := rtk_take ks k (by have := hl.out; omega) L l HLK.out hrt
            obtain ⟨ax, cx, rfl, -, -⟩ := hrv
            obtain ⟨oa6, on6, oc6, rfl⟩ := own_slice ho6
            generalize (pre (P ++ [UInt8.ofNat k]) l).length = nx at *
            clear KK OW2 BB2 o5 b5 ho6 hb6 hrt HLK
            go_wp2_with (at_builtin; refine wpList_apw rfl rfl rfl rfl hap ?_)
            first | rw [e9.out] | rw [show (k : Int) + 1 = ((k + 1 : Nat) : Int) from by omega]
            exact ⟨⟨k + 1, L ++ pre [UInt8.ofNat k] l, by omega, rfl, R6.out, O6.out, B6.out⟩, msr_up k 16 hkl⟩
          · have B6 : Hid (Below w.heap.size w w5) := by
              show Below _ _ _
              have h1 := BB2.out.trans (b5.mono BB2.out.size)
              exact (hg0 ▸ BW.out).trans (h1.mono (hg0 ▸ BW.out).size)
            have R6 : Hid (rt (.mk 3 p v ks) = none) := by
              show _ = _
              rw [RTS.out, rtk_bad ks 0 k (by have := hl.out; omega) hrt]
              rfl
            clear KK OW2 BB2 b5 hrt HLK
            go_wp2_with fail
            go_ret2
            exact ⟨.inr ⟨R6.out, rfl⟩, by first | exact B6.out | (rw [← hg0]; exact B6.out)⟩
        · have t0 : decide ((k : Int) < 16) = false := decide_eq_false (by omega)
          have ek : ks.take k = ks := List.take_of_length_le (by have := hl.out; omega)
          rw [ek] at hL
          have R6 : Hid (rt (.mk 3 p v ks) = some (([] : Rt) ++ L)) := by
            show _ = _
            rw [RTS.out, hL]
            rfl
          have RV : Hid (Rv (pre P (([] : Rt) ++ L)) _ wr) := own_rv ho
          have B6 : Hid (Below w.heap.size w wr) := (hg0 ▸ BW.out).trans (hB.mono (hg0 ▸ BW.out).size)
          obtain ⟨oa2, on2, oc2, rfl⟩ := own_slice ho
          clear ho hL hB
          go_wp2_with fail
          go_ret2
          exact ⟨.inl ⟨_, _, R6.out, rfl, RV.out⟩, by first | exact B6.out | (rw [← hg0]; exact B6.out)⟩
end Tr
end Go.Proofs.Ytdcbgldelfhohaa
/- lampbearerref.routes at every node. -/
namespace Go.Proofs.Ytdcbgldelfhohaa
namespace Tr
open Nb Go.RowKit
mutual
/-- What a node weighs: all that it holds. -/
def wn : Nd → Nat
  | .mk _ p v ks => 4 + p.length + v.length + wnk ks
def wnk : List Nd → Nat
  | [] => 0
  | t :: r => wn t + wnk r
end
theorem wnk_one : ∀ (ks : List Nd) (j : Nat), j < ks.length → wn (ks.getD j Nd.no) ≤ wnk ks
  | [], j, h => absurd h (by simp)
  | k :: r, 0, _ => by unfold wnk; rw [List.getD_cons_zero]; omega
  | k :: r, j + 1, h => by
    have := wnk_one r j (by simpa using h)
    unfold wnk
    rw [List.getD_cons_succ]; omega
theorem wnk_take : ∀ (ks : List Nd) (j : Nat), j < ks.length → wnk (ks.take j) + wn (ks.getD j Nd.no) ≤ wnk ks
  | [], j, h => absurd h (by simp)
  | k :: r, 0, _ => by rw [List.take_zero, List.getD_cons_zero]; unfold wnk; omega
  | k :: r, j + 1, h => by
    have := wnk_take r j (by simpa using h)
    rw [List.take_succ_cons, List.getD_cons_succ]
    unfold wnk
    omega
theorem rtk_count : ∀ (ks : List Nd) (i : Nat) (L : Rt), (∀ j, j < ks.length → ∀ a, rt (ks.getD j Nd.no) = some a → a.length ≤ wn (ks.getD j Nd.no)) → rtk i ks = some L → L.length ≤ wnk ks
  | [], i, L, _, h => by unfold rtk at h; cases h; exact Nat.zero_le _
  | t :: r, i, L, hk, h => by
    unfold rtk at h
    cases ha : rt t with
    | none => rw [ha] at h; cases h
    | some a =>
      cases hb : rtk (i + 1) r with
      | none => rw [ha, hb] at h; cases h
      | some b =>
        rw [ha, hb] at h
        cases h
        have h1 := hk 0 (by simp) a (by rw [List.getD_cons_zero]; exact ha)
        rw [List.getD_cons_zero] at h1
        have h2 := rtk_count r (i + 1) b (fun j hj c hc => by
          have := hk (j + 1) (by simpa using hj) c
          rw [List.getD_cons_succ] at this
          exact this hc) hb
        unfold wnk
        rw [List.length_append, pre_len']
        omega
theorem rt_two (p v : By) (t : Nd) (hp : Pt p) : rt (.mk 2 p v [t]) = (rt t).map (pre p) := by
  rw [rt, if_neg (fun h => by rw [(ptb_iff p).2 hp] at h; cases h.2), if_neg (by decide), if_neg (by decide), if_pos ⟨rfl, rfl⟩, rt0]
theorem rt_count {t : Nd} (h : Wf t) : ∀ l, rt t = some l → l.length ≤ wn t := by
  induction h with
  | mk k p v ks _ ih =>
    intro l h
    unfold rt at h
    split at h
    · cases h
    split at h
    · cases h; exact Nat.zero_le _
    split at h
    · cases h
      unfold wn
      rw [List.length_singleton]; omega
    split at h
    · rename_i h2
      obtain ⟨t, rfl⟩ := List.length_eq_one_iff.1 h2.2
      rw [rt0] at h
      cases ha : rt t with
      | none => rw [ha] at h; cases h
      | some a =>
        rw [ha] at h
        cases h
        have := ih 0 (by simp) a ha
        rw [List.getD_cons_zero] at this
        unfold wn wnk wnk
        rw [pre_len']; omega
    split at h
    · rename_i h3
      cases ha : rtk 0 ks with
      | none => rw [ha] at h; cases h
      | some a =>
        rw [ha] at h
        cases h
        have := rtk_count ks 0 a ih ha
        unfold wn
        rw [List.length_append]
        split
        · rw [List.length_nil]; omega
        · rw [List.length_singleton]; omega
    · cases h
theorem rt_none_bad (k : Int) (p v : By) (ks : List Nd) (hk : k = 1 ∨ k = 2) (hp : ¬ Pt p) : rt (.mk k p v ks) = none := by
  rw [rt, if_pos ⟨hk, by cases h : ptb p with | false => rfl | true => exact absurd ((ptb_iff p).1 h) hp⟩]
/-- routes, at every node. -/
theorem routes_any {t : Nd} (ht : Wf t) : ∀ (S : Nat → Prop) (x : V4) (w : World) (P : By), Nv S w t x → P.length + wn t ≤ 4194304 → Calls Try.prog 23 #[v4 x, .string (st P)] w fun e w' => RT t P e w' ∧ Below w.heap.size w w' := by
  induction ht with
  | mk k p v ks _ ih =>
    intro S x w P hx hw
    cases hx with
    | mk _ _ _ _ pv vv kv vs hp hv hl hkk hi =>
      have sp := Bs_sl hp
      have sv := Bs_sl hv
      obtain ⟨a1, c1, rfl, -, -⟩ := hp
      obtain ⟨a2, c2, rfl, -, -⟩ := hv
      have hkA := hkk
      obtain ⟨a3, c3, rfl, -, hkq⟩ := hkk
      have hw' : P.length + (4 + p.length + v.length + wnk ks) ≤ 4194304 := by unfold wn at hw; exact hw
      have hz : p.length ≤ 4194304 := by omega
      show Calls Try.prog 23 #[.agg #[.int .i64 k, _, _, _], _] w _
      by_cases h0 : k = 0
      · subst h0
        refine (rt_zero a1 a2 a3 _ c1 _ c2 _ c3 P w p hz sp).mono fun e w' he => ⟨.inl ⟨[], _, ?_, he.1, Rv_nil _⟩, he.2⟩
        unfold rt; simp
      by_cases h1 : k = 1
      · subst h1
        by_cases hpt : Pt p
        · refine (rt_leaf a1 a2 a3 _ c1 _ c2 _ c3 P w p hz sp (fun j hj => pt_bz hpt j hj) rfl v sv (by omega)).mono fun e w' he => ?_
          obtain ⟨⟨y, h2, h3⟩, h4⟩ := he
          refine ⟨.inl ⟨[(p, v)], y, ?_, h2, h3⟩, h4⟩
          rw [rt, if_neg (fun h => by rw [(ptb_iff p).2 hpt] at h; cases h.2), if_neg (by decide), if_pos rfl]
        · obtain ⟨i, h2, h3, h4⟩ := not_pt hpt
          exact (rt_leaf_no a1 a2 a3 _ c1 _ c2 _ c3 P w p hz sp i h2 ⟨h3, h4⟩).mono fun e w' he => ⟨.inr ⟨rt_none_bad 1 p v ks (.inl rfl) hpt, he.1⟩, he.2⟩
      by_cases h2 : k = 2
      · subst h2
        by_cases hpt : Pt p
        · by_cases hlen : ks.length = 1
          · obtain ⟨t, rfl⟩ := List.length_eq_one_iff.1 hlen
            obtain ⟨gk, off, rfl, -, hgk, hcell⟩ := hkq (by rw [hl]; simp)
            have hi0 := hi 0 (by simp)
            rw [List.getD_cons_zero] at hi0
            obtain ⟨y0, y1, y2, y3⟩ := hcell 0 (by rw [hl]; simp)
            obtain ⟨q, b1, m1, d1, b2, m2, d2, b3, m3, d3, ev⟩ := Nv_form hi0
            rw [ev] at y0 y1 y2 y3 hi0
            have e1 : vs.length = 1 := by rw [hl]; rfl
            rw [e1]
            have KR : ∀ wx : World, Below w.heap.size w wx → Calls Try.prog 23 #[.agg #[.int .i64 q, .slice b1 m1 d1, .slice b2 m2 d2, .slice b3 m3 d3], .string (st (P ++ p))] wx fun e w' => RT t (P ++ p) e w' ∧ Below wx.heap.size wx w' := fun wx hb => ih 0 (by simp) S (.int .i64 q, .slice b1 m1 d1, .slice b2 m2 d2, .slice b3 m3 d3) wx (P ++ p) (Nv_below hi0 hb) (by
              rw [List.getD_cons_zero, List.length_append]
              unfold wnk wnk at hw'
              omega)
            cases hr : rt t with
            | some l =>
              refine (rt_road a1 a2 _ c1 _ c2 c3 P w p hz sp (fun j hj => pt_bz hpt j hj) rfl (by omega) (fun x w => Rv (pre (P ++ p) l) x w) true (fun x w w' h hb => Rv_below h hb) q b1 b2 b3 m1 d1 m2 d2 m3 d3 gk off hgk y0 y1 y2 y3 (fun wx hb => (KR wx hb).mono fun e w' he => ?_)).mono fun e w' he => ?_
              · obtain ⟨h3 | h3, h4⟩ := he
                · obtain ⟨l2, x2, h5, h6, h7⟩ := h3
                  rw [hr] at h5
                  cases h5
                  exact ⟨x2, h6, h7, h4⟩
                · rw [hr] at h3; cases h3.1
              · obtain ⟨⟨x2, h3, h4⟩, h5⟩ := he
                refine ⟨.inl ⟨pre p l, x2, ?_, h3, ?_⟩, h5⟩
                · rw [rt_two p v t hpt, hr]; rfl
                · rw [pre_pre]; exact h4
            | none =>
              refine (rt_road a1 a2 _ c1 _ c2 c3 P w p hz sp (fun j hj => pt_bz hpt j hj) rfl (by omega) (fun x _ => x = .slice none 0 0) false (fun x w w' h hb => h) q b1 b2 b3 m1 d1 m2 d2 m3 d3 gk off hgk y0 y1 y2 y3 (fun wx hb => (KR wx hb).mono fun e w' he => ?_)).mono fun e w' he => ?_
              · obtain ⟨h3 | h3, h4⟩ := he
                · obtain ⟨l2, x2, h5, h6, h7⟩ := h3
                  rw [hr] at h5; cases h5
                · exact ⟨_, h3.2, rfl, h4⟩
              · obtain ⟨⟨x2, h3, h4⟩, h5⟩ := he
                subst h4
                refine ⟨.inr ⟨?_, h3⟩, h5⟩
                rw [rt_two p v t hpt, hr]; rfl
          · refine (rt_road_no a1 a2 a3 _ c1 _ c2 _ c3 P w p hz sp (fun j hj => pt_bz hpt j hj) (by omega)).mono fun e w' he => ⟨.inr ⟨?_, he.1⟩, he.2⟩
            rw [rt, if_neg (fun h => by rw [(ptb_iff p).2 hpt] at h; cases h.2), if_neg (by decide), if_neg (by decide), if_neg (fun h => hlen h.2), if_neg (fun h => absurd h.1 (by decide))]
        · obtain ⟨i, h3, h4, h5⟩ := not_pt hpt
          exact (rt_road_bad a1 a2 a3 _ c1 _ c2 _ c3 P w p hz sp i h3 ⟨h4, h5⟩).mono fun e w' he => ⟨.inr ⟨rt_none_bad 2 p v ks (.inr rfl) hpt, he.1⟩, he.2⟩
      by_cases h3 : k = 3
      · subst h3
        by_cases hlen : ks.length = 16
        · obtain ⟨gk, off, rfl, -, hgk, hcell⟩ := hkq (by rw [hl, hlen]; decide)
          have e1 : vs.length = 16 := by rw [hl, hlen]
          rw [e1] at hkA ⊢
          have KR : ∀ j, j < 16 → ∀ (u : V4) (wx : World), Nv S wx (ks.getD j Nd.no) u → Calls Try.prog 23 #[v4 u, .string (st (P ++ [UInt8.ofNat j]))] wx fun e w' => RT (ks.getD j Nd.no) (P ++ [UInt8.ofNat j]) e w' ∧ Below wx.heap.size wx w' := fun j hj u wx hu => ih j (by omega) S u wx (P ++ [UInt8.ofNat j]) hu (by
            have := wnk_one ks j (by omega)
            rw [List.length_append, List.length_singleton]
            omega)
          have HN : ∀ j L a, j < 16 → rtk 0 (ks.take j) = some L → rt (ks.getD j Nd.no) = some a → 1 + L.length + a.length ≤ 4194304 := fun j L a hj hL ha => by
            have q1 := rtk_count (ks.take j) 0 L (fun i hi c hc => rt_count (wf_any _) c hc) hL
            have q2 := rt_count (wf_any _) a ha
            have q3 := wnk_take ks j (by omega)
            omega
          by_cases hv0 : v = []
          · exact rt_fork_e a1 a2 _ c1 _ c2 c3 P w p hz sp v sv rfl (by omega) S ks vs gk off hlen e1 hkA (fun j hj => hi j (by omega)) KR HN hv0
          · exact rt_fork_v a1 a2 _ c1 _ c2 c3 P w p hz sp v sv rfl (by omega) S ks vs gk off hlen e1 hkA (fun j hj => hi j (by omega)) KR HN hv0
        · refine (rt_fork_no a1 a2 a3 _ c1 _ c2 _ c3 P w p hz sp (by omega)).mono fun e w' he => ⟨.inr ⟨?_, he.1⟩, he.2⟩
          rw [rt, if_neg (fun h => by rcases h.1 with h | h <;> exact absurd h (by decide)), if_neg (by decide), if_neg (by decide), if_neg (fun h => absurd h.1 (by decide)), if_neg (fun h => hlen h.2)]
      · refine (rt_other a1 a2 a3 _ c1 _ c2 _ c3 P w p hz sp k h0 h1 h2 h3).mono fun e w' he => ⟨.inr ⟨?_, he.1⟩, he.2⟩
        rw [rt, if_neg (fun h => by rcases h.1 with h | h; exact h1 h; exact h2 h), if_neg h0, if_neg h1, if_neg (fun h => h2 h.1), if_neg (fun h => h3 h.1)]
end Tr
end Go.Proofs.Ytdcbgldelfhohaa
/- tree.read, by kinds. -/
namespace Go.Proofs.Ytdcbgldelfhohaa
namespace Tr
open Nb Go.RowKit
/-- What a walk of a box keeps. -/
structure RL (h : Nat) (u : V4) (p : By) (ap : Option Addr) (W wx : World) : Prop where
  bx : Bx h u wx
  vw : Sp.Vw p ap wx
  b : Below W.heap.size W wx
theorem RL_below {h : Nat} {u : V4} {p : By} {ap : Option Addr} {W wx w2 : World} (k : RL h u p ap W wx) (b : Below wx.heap.size wx w2) : RL h u p ap W w2 := ⟨Bx_below k.bx b, Sp.Vw_below k.vw b, k.b.trans (b.mono k.b.size)⟩
theorem eq_below {w w' : World} (h : w' = w) : Below w.heap.size w w' := by subst h; exact Below.refl _ _
theorem wrap_add (a b : Nat) (ha : a ≤ 1099511627776) (hb : b ≤ 1099511627776) : IntKind.i64.wrap ((a : Int) + (b : Int)) = ((a + b : Nat) : Int) := by rw [IntKind.wrap_i64]; omega
set_option maxHeartbeats 1000000 in
set_option maxRecDepth 100000 in
theorem read_none (ap av ak : Option Addr) (np cp nv cv nk ck hh : Nat) (w : World) :
    Calls Try.prog 22 #[.agg #[.int .i64 0, .slice ap np cp, .slice av nv cv, .slice ak nk ck], .int .i64 (hh : Int)] w fun e w' => e = .returned (.tuple #[.iface 69 (.agg #[]), .bool true]) ∧ Below w.heap.size w w' := by
  have HB : Hid (Below w.heap.size w (w.alloc (.cells #[.int .i64 0, .slice ap np cp, .slice av nv cv, .slice ak nk ck] 25))) := (Below.refl _ _).alloc (Nat.le_refl _) _
  go_enter Try.func22, Try.ntmps22
  go_wp2_with fail
  go_ret2
  exact ⟨rfl, HB.out⟩
set_option maxHeartbeats 1000000 in
set_option maxRecDepth 100000 in
theorem read_other (k : Int) (ap av ak : Option Addr) (np cp nv cv nk ck hh : Nat) (w : World) (k0 : k ≠ 0) (k1 : k ≠ 1) (k2 : k ≠ 2) (k3 : k ≠ 3) :
    Calls Try.prog 22 #[.agg #[.int .i64 k, .slice ap np cp, .slice av nv cv, .slice ak nk ck], .int .i64 (hh : Int)] w fun e w' => e = .returned (.tuple #[.iface 69 (.agg #[]), .bool false]) ∧ Below w.heap.size w w' := by
  have HB : Hid (Below w.heap.size w (w.alloc (.cells #[.int .i64 k, .slice ap np cp, .slice av nv cv, .slice ak nk ck] 25))) := (Below.refl _ _).alloc (Nat.le_refl _) _
  have e0 : (k == 0) = false := beq_eq_false_iff_ne.2 k0
  have e1 : (k == 1) = false := beq_eq_false_iff_ne.2 k1
  have e2 : (k == 2) = false := beq_eq_false_iff_ne.2 k2
  have e3 : (k == 3) = false := beq_eq_false_iff_ne.2 k3
  go_enter Try.func22, Try.ntmps22
  go_wp2_with fail
  go_ret2
  exact ⟨rfl, HB.out⟩
set_option maxHeartbeats 2000000 in
set_option maxRecDepth 100000 in
theorem read_leaf_ok (ap av ak : Option Addr) (np cp nv cv nk ck hh : Nat) (w : World) (p v : By) (hn : np = p.length) (hz : np ≤ 4194304) (hnv : nv = v.length) (hh6 : hh ≤ 4194304) (vw : Sp.Vw p ap w) (hp : ptb p = true) :
    Calls Try.prog 22 #[.agg #[.int .i64 1, .slice ap np cp, .slice av nv cv, .slice ak nk ck], .int .i64 (hh : Int)] w fun e w' => e = .returned (.tuple #[.iface 71 (.agg #[.slice ap np cp, .slice av nv cv]), .bool (may v (hh + np))]) ∧ Below w.heap.size w w' := by
  have HB : Below w.heap.size w (w.alloc (.cells #[.int .i64 1, .slice ap np cp, .slice av nv cv, .slice ak nk ck] 25)) := (Below.refl _ _).alloc (Nat.le_refl _) _
  have E1 : Hid (IntKind.i64.wrap ((hh : Int) + (np : Int)) = ((hh + np : Nat) : Int)) := wrap_add _ _ (by omega) (by omega)
  have KP : Hid (∀ wx : World, Sp.Vw p ap wx → Calls Try.prog 39 #[.slice ap np cp] wx fun e w' => e = .returned (.bool true) ∧ Below wx.heap.size wx w') := fun wx hv => by
    subst hn
    refine (ispath_any p ap cp wx (by show (_ : Int) ≤ _; omega) hv).mono fun e w' h => ⟨?_, eq_below h.2⟩
    rw [h.1, show pb p = true from hp]
  have KM : Hid (∀ wx : World, Calls Try.prog 40 #[.slice av nv cv, .int .i64 ((hh + np : Nat) : Int)] wx fun e w' => e = .returned (.bool (may v (hh + np))) ∧ Below wx.heap.size wx w') := fun wx => by
    subst hnv
    exact (mayhave_any v (hh + np) av cv wx).mono fun e w' h => ⟨h.1, eq_below h.2⟩
  have R0 : RL w.heap.size (.int .i64 1, .slice ap np cp, .slice av nv cv, .slice ak nk ck) p ap (w.alloc (.cells #[.int .i64 1, .slice ap np cp, .slice av nv cv, .slice ak nk ck] 25)) (w.alloc (.cells #[.int .i64 1, .slice ap np cp, .slice av nv cv, .slice ak nk ck] 25)).drew := ⟨Bx_below (Bx_new w (.int .i64 1, .slice ap np cp, .slice av nv cv, .slice ak nk ck)) (Below.refl _ _).drew, Sp.Vw_drew (Sp.Vw_al vw _), (Below.refl _ _).drew⟩
  clear hn hz hnv hh6 vw hp
  generalize may v (hh + np) = mv at *
  go_enter Try.func22, Try.ntmps22
  go_upto_region 5 with fail
  generalize (w.alloc (.cells #[.int .i64 1, .slice ap np cp, .slice av nv cv, .slice ak nk ck] 25)) = W0 at *
  have HG : Hid (w.heap.size ≤ W0.heap.size) := HB.size
  generalize hg0 : w.heap.size = g0 at *
  refine RS.wp_region_one (RL g0 (.int .i64 1, .slice ap np cp, .slice av nv cv, .slice ak nk ck) p ap W0) (by kernel_rfl) (by kernel_rfl) (R0) ?_
  dsimp only [List.toList_toArray]
  refine RS.go1 (v := ?_) (a' := ?_) rfl ?_ ?_ ?_
  rotate_left 2
  · intro K wx hS hK
    go_simp
    exact hK _ hS
  · simp only [Act.put, List.setIfInBounds_toArray, List.set_cons_succ, List.set_cons_zero]
    rfl
  refine RS.go1 (v := ?_) (a' := ?_) rfl ?_ ?_ ?_
  rotate_left 2
  · intro K wx hS hK
    have m1 := hS.bx.2.2.1
    go_simp
    exact hK _ hS
  · simp only [Act.put, List.setIfInBounds_toArray, List.set_cons_succ, List.set_cons_zero]
    rfl
  refine RS.go1 (v := ?_) (a' := ?_) rfl ?_ ?_ ?_
  rotate_left 2
  · intro K wx hS hK
    go_simp
    exact hK _ hS
  · simp only [Act.put, List.setIfInBounds_toArray, List.set_cons_succ, List.set_cons_zero]
    rfl
  refine RS.go1 (v := ?_) (a' := ?_) rfl ?_ ?_ ?_
  rotate_left 2
  · intro K wx hS hK
    have m2 := hS.bx.2.2.2.1
    go_simp
    exact hK _ hS
  · simp only [Act.put, List.setIfInBounds_toArray, List.set_cons_succ, List.set_cons_zero]
    rfl
  refine RS.go1 (v := ?_) (a' := ?_) rfl ?_ ?_ ?_
  rotate_left 2
  · intro K wx hS hK
    go_simp
    exact hK _ hS
  · simp only [Act.put, List.setIfInBounds_toArray, List.set_cons_succ, List.set_cons_zero]
    rfl
  refine RS.go1 (v := ?_) (a' := ?_) rfl ?_ ?_ ?_
  rotate_left 2
  · intro K wx hS hK
    go_simp
    exact hK _ hS
  · simp only [Act.put, List.setIfInBounds_toArray, List.set_cons_succ, List.set_cons_zero]
    rfl
  refine RS.go1 (v := ?_) (a' := ?_) rfl ?_ ?_ ?_
  rotate_left 2
  · intro K wx hS hK
    go_simp
    exact hK _ hS
  · simp only [Act.put, List.setIfInBounds_toArray, List.set_cons_succ, List.set_cons_zero]
    rfl
  refine RS.go1 (v := ?_) (a' := ?_) rfl ?_ ?_ ?_
  rotate_left 2
  · intro K wx hS hK
    have m1 := hS.bx.2.2.1
    go_simp
    exact hK _ hS
  · simp only [Act.put, List.setIfInBounds_toArray, List.set_cons_succ, List.set_cons_zero]
    rfl
  refine RS.go1 (v := ?_) (a' := ?_) rfl ?_ ?_ ?_
  rotate_left 2
  · intro K wx hS hK
    go_simp
    refine (KP.out _ hS.vw).mono (fun e w2 he => ?_)
    refine ⟨_, he.1, ?_⟩
    exact hK _ (RL_below hS he.2)
  · simp only [Act.put, List.setIfInBounds_toArray, List.set_cons_succ, List.set_cons_zero]
    rfl
  refine RS.go1 (v := ?_) (a' := ?_) rfl ?_ ?_ ?_
  rotate_left 2
  · intro K wx hS hK
    go_simp
    exact hK _ hS
  · simp only [Act.put, List.setIfInBounds_toArray, List.set_cons_succ, List.set_cons_zero]
    rfl
  refine RS.go1g (v := ?_) (a' := ?_) (by kernel_rfl) ?_ ?_ ?_
  rotate_left 2
  · intro K wx hS hK
    go_simp
    exact hK _ hS
  · simp only [Act.put, List.setIfInBounds_toArray, List.set_cons_succ, List.set_cons_zero]
    rfl
  refine RS.go1g (v := ?_) (a' := ?_) (by kernel_rfl) ?_ ?_ ?_
  rotate_left 2
  · intro K wx hS hK
    have m2 := hS.bx.2.2.2.1
    go_simp
    exact hK _ hS
  · simp only [Act.put, List.setIfInBounds_toArray, List.set_cons_succ, List.set_cons_zero]
    rfl
  refine RS.go1g (v := ?_) (a' := ?_) (by kernel_rfl) ?_ ?_ ?_
  rotate_left 2
  · intro K wx hS hK
    go_simp
    exact hK _ hS
  · simp only [Act.put, List.setIfInBounds_toArray, List.set_cons_succ, List.set_cons_zero]
    rfl
  refine RS.go1g (v := ?_) (a' := ?_) (by kernel_rfl) ?_ ?_ ?_
  rotate_left 2
  · intro K wx hS hK
    go_simp
    exact hK _ hS
  · simp only [Act.put, List.setIfInBounds_toArray, List.set_cons_succ, List.set_cons_zero]
    rfl
  refine RS.go1g (v := ?_) (a' := ?_) (by kernel_rfl) ?_ ?_ ?_
  rotate_left 2
  · intro K wx hS hK
    have m1 := hS.bx.2.2.1
    go_simp
    exact hK _ hS
  · simp only [Act.put, List.setIfInBounds_toArray, List.set_cons_succ, List.set_cons_zero]
    rfl
  refine RS.go1g (v := ?_) (a' := ?_) (by kernel_rfl) ?_ ?_ ?_
  rotate_left 2
  · intro K wx hS hK
    go_simp
    exact hK _ hS
  · simp only [Act.put, List.setIfInBounds_toArray, List.set_cons_succ, List.set_cons_zero]
    rfl
  refine RS.go1g (v := ?_) (a' := ?_) (by kernel_rfl) ?_ ?_ ?_
  rotate_left 2
  · intro K wx hS hK
    have e1 := E1.out
    go_simp
    exact hK _ hS
  · simp only [Act.put, List.setIfInBounds_toArray, List.set_cons_succ, List.set_cons_zero]
    rfl
  refine RS.go1g (v := ?_) (a' := ?_) (by kernel_rfl) ?_ ?_ ?_
  rotate_left 2
  · intro K wx hS hK
    go_simp
    refine (KM.out _).mono (fun e w2 he => ?_)
    refine ⟨_, he.1, ?_⟩
    exact hK _ (RL_below hS he.2)
  · simp only [Act.put, List.setIfInBounds_toArray, List.set_cons_succ, List.set_cons_zero]
    rfl
  refine RS.go1 (v := ?_) (a' := ?_) rfl ?_ ?_ ?_
  rotate_left 2
  · intro K wx hS hK
    go_simp
    exact hK _ hS
  · simp only [Act.put, List.setIfInBounds_toArray, List.set_cons_succ, List.set_cons_zero]
    rfl
  refine RS.go1 (v := ?_) (a' := ?_) rfl ?_ ?_ ?_
  rotate_left 2
  · intro K wx hS hK
    go_simp
    exact hK _ hS
  · simp only [Act.put, List.setIfInBounds_toArray, List.set_cons_succ, List.set_cons_zero]
    rfl
  refine RS.go1 (v := ?_) (a' := ?_) rfl ?_ ?_ ?_
  rotate_left 2
  · intro K wx hS hK
    go_simp
    exact hK _ hS
  · simp only [Act.put, List.setIfInBounds_toArray, List.set_cons_succ, List.set_cons_zero]
    rfl
  refine RS.go_end ?_
  intro w9 m9
  have HZ : Hid (Below w.heap.size w w9) := by show Below _ _ _; rw [hg0]; exact HB.trans (m9.b.mono HG.out)
  clear m9 R0
  go_wp2_with fail
  go_ret2
  exact ⟨rfl, HZ.out⟩
set_option maxHeartbeats 2000000 in
set_option maxRecDepth 100000 in
theorem read_leaf_no (ap av ak : Option Addr) (np cp nv cv nk ck hh : Nat) (w : World) (p v : By) (hn : np = p.length) (hz : np ≤ 4194304) (hnv : nv = v.length) (hh6 : hh ≤ 4194304) (vw : Sp.Vw p ap w) (hp : ptb p = false) :
    Calls Try.prog 22 #[.agg #[.int .i64 1, .slice ap np cp, .slice av nv cv, .slice ak nk ck], .int .i64 (hh : Int)] w fun e w' => e = .returned (.tuple #[.iface 71 (.agg #[.slice ap np cp, .slice av nv cv]), .bool (false)]) ∧ Below w.heap.size w w' := by
  have HB : Below w.heap.size w (w.alloc (.cells #[.int .i64 1, .slice ap np cp, .slice av nv cv, .slice ak nk ck] 25)) := (Below.refl _ _).alloc (Nat.le_refl _) _
  have E1 : Hid (IntKind.i64.wrap ((hh : Int) + (np : Int)) = ((hh + np : Nat) : Int)) := wrap_add _ _ (by omega) (by omega)
  have KP : Hid (∀ wx : World, Sp.Vw p ap wx → Calls Try.prog 39 #[.slice ap np cp] wx fun e w' => e = .returned (.bool false) ∧ Below wx.heap.size wx w') := fun wx hv => by
    subst hn
    refine (ispath_any p ap cp wx (by show (_ : Int) ≤ _; omega) hv).mono fun e w' h => ⟨?_, eq_below h.2⟩
    rw [h.1, show pb p = false from hp]
  have KM : Hid (∀ wx : World, Calls Try.prog 40 #[.slice av nv cv, .int .i64 ((hh + np : Nat) : Int)] wx fun e w' => e = .returned (.bool (may v (hh + np))) ∧ Below wx.heap.size wx w') := fun wx => by
    subst hnv
    exact (mayhave_any v (hh + np) av cv wx).mono fun e w' h => ⟨h.1, eq_below h.2⟩
  have R0 : RL w.heap.size (.int .i64 1, .slice ap np cp, .slice av nv cv, .slice ak nk ck) p ap (w.alloc (.cells #[.int .i64 1, .slice ap np cp, .slice av nv cv, .slice ak nk ck] 25)) (w.alloc (.cells #[.int .i64 1, .slice ap np cp, .slice av nv cv, .slice ak nk ck] 25)).drew := ⟨Bx_below (Bx_new w (.int .i64 1, .slice ap np cp, .slice av nv cv, .slice ak nk ck)) (Below.refl _ _).drew, Sp.Vw_drew (Sp.Vw_al vw _), (Below.refl _ _).drew⟩
  clear hn hz hnv hh6 vw hp
  generalize may v (hh + np) = mv at *
  go_enter Try.func22, Try.ntmps22
  go_upto_region 5 with fail
  generalize (w.alloc (.cells #[.int .i64 1, .slice ap np cp, .slice av nv cv, .slice ak nk ck] 25)) = W0 at *
  have HG : Hid (w.heap.size ≤ W0.heap.size) := HB.size
  generalize hg0 : w.heap.size = g0 at *
  refine RS.wp_region_one (RL g0 (.int .i64 1, .slice ap np cp, .slice av nv cv, .slice ak nk ck) p ap W0) (by kernel_rfl) (by kernel_rfl) (R0) ?_
  dsimp only [List.toList_toArray]
  refine RS.go1 (v := ?_) (a' := ?_) rfl ?_ ?_ ?_
  rotate_left 2
  · intro K wx hS hK
    go_simp
    exact hK _ hS
  · simp only [Act.put, List.setIfInBounds_toArray, List.set_cons_succ, List.set_cons_zero]
    rfl
  refine RS.go1 (v := ?_) (a' := ?_) rfl ?_ ?_ ?_
  rotate_left 2
  · intro K wx hS hK
    have m1 := hS.bx.2.2.1
    go_simp
    exact hK _ hS
  · simp only [Act.put, List.setIfInBounds_toArray, List.set_cons_succ, List.set_cons_zero]
    rfl
  refine RS.go1 (v := ?_) (a' := ?_) rfl ?_ ?_ ?_
  rotate_left 2
  · intro K wx hS hK
    go_simp
    exact hK _ hS
  · simp only [Act.put, List.setIfInBounds_toArray, List.set_cons_succ, List.set_cons_zero]
    rfl
  refine RS.go1 (v := ?_) (a' := ?_) rfl ?_ ?_ ?_
  rotate_left 2
  · intro K wx hS hK
    have m2 := hS.bx.2.2.2.1
    go_simp
    exact hK _ hS
  · simp only [Act.put, List.setIfInBounds_toArray, List.set_cons_succ, List.set_cons_zero]
    rfl
  refine RS.go1 (v := ?_) (a' := ?_) rfl ?_ ?_ ?_
  rotate_left 2
  · intro K wx hS hK
    go_simp
    exact hK _ hS
  · simp only [Act.put, List.setIfInBounds_toArray, List.set_cons_succ, List.set_cons_zero]
    rfl
  refine RS.go1 (v := ?_) (a' := ?_) rfl ?_ ?_ ?_
  rotate_left 2
  · intro K wx hS hK
    go_simp
    exact hK _ hS
  · simp only [Act.put, List.setIfInBounds_toArray, List.set_cons_succ, List.set_cons_zero]
    rfl
  refine RS.go1 (v := ?_) (a' := ?_) rfl ?_ ?_ ?_
  rotate_left 2
  · intro K wx hS hK
    go_simp
    exact hK _ hS
  · simp only [Act.put, List.setIfInBounds_toArray, List.set_cons_succ, List.set_cons_zero]
    rfl
  refine RS.go1 (v := ?_) (a' := ?_) rfl ?_ ?_ ?_
  rotate_left 2
  · intro K wx hS hK
    have m1 := hS.bx.2.2.1
    go_simp
    exact hK _ hS
  · simp only [Act.put, List.setIfInBounds_toArray, List.set_cons_succ, List.set_cons_zero]
    rfl
  refine RS.go1 (v := ?_) (a' := ?_) rfl ?_ ?_ ?_
  rotate_left 2
  · intro K wx hS hK
    go_simp
    refine (KP.out _ hS.vw).mono (fun e w2 he => ?_)
    refine ⟨_, he.1, ?_⟩
    exact hK _ (RL_below hS he.2)
  · simp only [Act.put, List.setIfInBounds_toArray, List.set_cons_succ, List.set_cons_zero]
    rfl
  refine RS.go1 (v := ?_) (a' := ?_) rfl ?_ ?_ ?_
  rotate_left 2
  · intro K wx hS hK
    go_simp
    exact hK _ hS
  · simp only [Act.put, List.setIfInBounds_toArray, List.set_cons_succ, List.set_cons_zero]
    rfl
  refine RS.go0 (a' := ?_) (by kernel_rfl) ?_ ?_
  rotate_left 1
  · simp only [Act.put, List.setIfInBounds_toArray, List.set_cons_succ, List.set_cons_zero]
    rfl
  refine RS.go0 (a' := ?_) (by kernel_rfl) ?_ ?_
  rotate_left 1
  · simp only [Act.put, List.setIfInBounds_toArray, List.set_cons_succ, List.set_cons_zero]
    rfl
  refine RS.go0 (a' := ?_) (by kernel_rfl) ?_ ?_
  rotate_left 1
  · simp only [Act.put, List.setIfInBounds_toArray, List.set_cons_succ, List.set_cons_zero]
    rfl
  refine RS.go0 (a' := ?_) (by kernel_rfl) ?_ ?_
  rotate_left 1
  · simp only [Act.put, List.setIfInBounds_toArray, List.set_cons_succ, List.set_cons_zero]
    rfl
  refine RS.go0 (a' := ?_) (by kernel_rfl) ?_ ?_
  rotate_left 1
  · simp only [Act.put, List.setIfInBounds_toArray, List.set_cons_succ, List.set_cons_zero]
    rfl
  refine RS.go0 (a' := ?_) (by kernel_rfl) ?_ ?_
  rotate_left 1
  · simp only [Act.put, List.setIfInBounds_toArray, List.set_cons_succ, List.set_cons_zero]
    rfl
  refine RS.go0 (a' := ?_) (by kernel_rfl) ?_ ?_
  rotate_left 1
  · simp only [Act.put, List.setIfInBounds_toArray, List.set_cons_succ, List.set_cons_zero]
    rfl
  refine RS.go0 (a' := ?_) (by kernel_rfl) ?_ ?_
  rotate_left 1
  · simp only [Act.put, List.setIfInBounds_toArray, List.set_cons_succ, List.set_cons_zero]
    rfl
  refine RS.go1 (v := ?_) (a' := ?_) rfl ?_ ?_ ?_
  rotate_left 2
  · intro K wx hS hK
    go_simp
    exact hK _ hS
  · simp only [Act.put, List.setIfInBounds_toArray, List.set_cons_succ, List.set_cons_zero]
    rfl
  refine RS.go1 (v := ?_) (a' := ?_) rfl ?_ ?_ ?_
  rotate_left 2
  · intro K wx hS hK
    go_simp
    exact hK _ hS
  · simp only [Act.put, List.setIfInBounds_toArray, List.set_cons_succ, List.set_cons_zero]
    rfl
  refine RS.go1 (v := ?_) (a' := ?_) rfl ?_ ?_ ?_
  rotate_left 2
  · intro K wx hS hK
    go_simp
    exact hK _ hS
  · simp only [Act.put, List.setIfInBounds_toArray, List.set_cons_succ, List.set_cons_zero]
    rfl
  refine RS.go_end ?_
  intro w9 m9
  have HZ : Hid (Below w.heap.size w w9) := by show Below _ _ _; rw [hg0]; exact HB.trans (m9.b.mono HG.out)
  clear m9 R0
  go_wp2_with fail
  go_ret2
  exact ⟨rfl, HZ.out⟩
set_option maxHeartbeats 1000000 in
set_option maxRecDepth 100000 in
theorem read_road (ap av ak : Option Addr) (np cp nv cv nk ck hh : Nat) (w : World) (ok : Bool) (Q : Value → World → Prop) (KR : Hid (∀ wx : World, Below w.heap.size w wx → Calls Try.prog 41 #[.agg #[.int .i64 2, .slice ap np cp, .slice av nv cv, .slice ak nk ck], .int .i64 (hh : Int)] wx fun e w' => ∃ x, e = .returned (.tuple #[x, .bool ok]) ∧ Q x w' ∧ Below wx.heap.size wx w')) :
    Calls Try.prog 22 #[.agg #[.int .i64 2, .slice ap np cp, .slice av nv cv, .slice ak nk ck], .int .i64 (hh : Int)] w fun e w' => ∃ x, e = .returned (.tuple #[x, .bool ok]) ∧ Q x w' ∧ Below w.heap.size w w' := by
  have HB : Hid (Below w.heap.size w (w.alloc (.cells #[.int .i64 2, .slice ap np cp, .slice av nv cv, .slice ak nk ck] 25))) := (Below.refl _ _).alloc (Nat.le_refl _) _
  have BX := Bx_new w (.int .i64 2, .slice ap np cp, .slice av nv cv, .slice ak nk ck)
  obtain ⟨_, q0, q1, q2, q3⟩ := BX
  dsimp only at q0 q1 q2 q3
  go_enter Try.func22, Try.ntmps22
  go_wp2_with fail
  refine (KR.out _ HB.out).mono ?_
  rintro e w1 ⟨x, rfl, hq, hb1⟩
  have HQ : Hid (Q x w1) := hq
  have HZ : Hid (Below w.heap.size w w1) := HB.out.trans (hb1.mono HB.out.size)
  clear hq hb1
  go_wp2_with fail
  go_ret2
  exact ⟨x, rfl, HQ.out, HZ.out⟩
set_option maxHeartbeats 1000000 in
set_option maxRecDepth 100000 in
theorem read_fork (ap av ak : Option Addr) (np cp nv cv nk ck hh : Nat) (w : World) (ok : Bool) (Q : Option Addr → World → Prop) (KR : Hid (∀ wx : World, Below w.heap.size w wx → Calls Try.prog 42 #[.agg #[.int .i64 3, .slice ap np cp, .slice av nv cv, .slice ak nk ck], .int .i64 (hh : Int)] wx fun e w' => ∃ x, e = .returned (.tuple #[.pointer x, .bool ok]) ∧ Q x w' ∧ Below wx.heap.size wx w')) :
    Calls Try.prog 22 #[.agg #[.int .i64 3, .slice ap np cp, .slice av nv cv, .slice ak nk ck], .int .i64 (hh : Int)] w fun e w' => ∃ x, e = .returned (.tuple #[.iface 73 (.pointer x), .bool ok]) ∧ Q x w' ∧ Below w.heap.size w w' := by
  have HB : Hid (Below w.heap.size w (w.alloc (.cells #[.int .i64 3, .slice ap np cp, .slice av nv cv, .slice ak nk ck] 25))) := (Below.refl _ _).alloc (Nat.le_refl _) _
  have BX := Bx_new w (.int .i64 3, .slice ap np cp, .slice av nv cv, .slice ak nk ck)
  obtain ⟨_, q0, q1, q2, q3⟩ := BX
  dsimp only at q0 q1 q2 q3
  go_enter Try.func22, Try.ntmps22
  go_wp2_with fail
  refine (KR.out _ HB.out).mono ?_
  rintro e w1 ⟨x, rfl, hq, hb1⟩
  have HQ : Hid (Q x w1) := hq
  have HZ : Hid (Below w.heap.size w w1) := HB.out.trans (hb1.mono HB.out.size)
  clear hq hb1
  go_wp2_with fail
  go_ret2
  exact ⟨x, rfl, HQ.out, HZ.out⟩
end Tr
end Go.Proofs.Ytdcbgldelfhohaa
/- tree.readRoad. -/
namespace Go.Proofs.Ytdcbgldelfhohaa
namespace Tr
open Nb Go.RowKit
set_option maxHeartbeats 2000000 in
set_option maxRecDepth 100000 in
theorem rroad_empty (ap av ak : Option Addr) (cp nv cv nk ck hh : Nat) (w : World)  :
    Calls Try.prog 41 #[.agg #[.int .i64 2, .slice ap 0 cp, .slice av nv cv, .slice ak nk ck], .int .i64 (hh : Int)] w fun e w' => (∃ x, e = .returned (.tuple #[x, .bool false])) ∧ Below w.heap.size w w' := by
  have HB : Hid (Below w.heap.size w (w.alloc (.cells #[.int .i64 2, .slice ap 0 cp, .slice av nv cv, .slice ak nk ck] 25))) := (Below.refl _ _).alloc (Nat.le_refl _) _
  obtain ⟨hh0, q0, q1, q2, q3⟩ := Bx_new w (.int .i64 2, .slice ap 0 cp, .slice av nv cv, .slice ak nk ck)
  dsimp only at q0 q1 q2 q3
  go_enter Try.func41, Try.ntmps41
  go_wp2_with fail
  go_ret2
  exact ⟨⟨_, rfl⟩, HB.out⟩
set_option maxHeartbeats 2000000 in
set_option maxRecDepth 100000 in
theorem rroad_path (ap av ak : Option Addr) (np cp nv cv nk ck hh : Nat) (w : World) (p : By) (hn : np = p.length) (hz : np ≤ 4194304) (h0 : 0 < np) (vw : Sp.Vw p ap w) (hp : ptb p = false) :
    Calls Try.prog 41 #[.agg #[.int .i64 2, .slice ap np cp, .slice av nv cv, .slice ak nk ck], .int .i64 (hh : Int)] w fun e w' => (∃ x, e = .returned (.tuple #[x, .bool false])) ∧ Below w.heap.size w w' := by
  have HB : Hid (Below w.heap.size w (w.alloc (.cells #[.int .i64 2, .slice ap np cp, .slice av nv cv, .slice ak nk ck] 25))) := (Below.refl _ _).alloc (Nat.le_refl _) _
  obtain ⟨hh0, q0, q1, q2, q3⟩ := Bx_new w (.int .i64 2, .slice ap np cp, .slice av nv cv, .slice ak nk ck)
  dsimp only at q0 q1 q2 q3
  have e0 : ((np : Int) == 0) = false := beq_eq_false_iff_ne.2 (by omega)
  have e0' : (np == 0) = false := beq_eq_false_iff_ne.2 (by omega)
  have VW : Sp.Vw p ap (w.alloc (.cells #[.int .i64 2, .slice ap np cp, .slice av nv cv, .slice ak nk ck] 25)) := Sp.Vw_al vw _
  have KP : Hid (∀ wx : World, Sp.Vw p ap wx → Calls Try.prog 39 #[.slice ap np cp] wx fun e w' => e = .returned (.bool false) ∧ w' = wx) := fun wx hv => by
    subst hn
    refine (ispath_any p ap cp wx (by show (_ : Int) ≤ _; omega) hv).mono fun e w' h => ⟨?_, h.2⟩
    rw [h.1, show pb p = false from hp]
  clear hn hz h0 vw hp
  go_enter Try.func41, Try.ntmps41
  go_wp2_with fail
  refine (KP.out _ VW).mono ?_
  rintro e w1 ⟨rfl, rfl⟩
  go_wp2_with fail
  go_ret2
  exact ⟨⟨_, rfl⟩, HB.out⟩
set_option maxHeartbeats 2000000 in
set_option maxRecDepth 100000 in
theorem rroad_kids (ap av ak : Option Addr) (np cp nv cv nk ck hh : Nat) (w : World) (p : By) (hn : np = p.length) (hz : np ≤ 4194304) (h0 : 0 < np) (vw : Sp.Vw p ap w) (hp : ptb p = true) (hk : nk ≠ 1) :
    Calls Try.prog 41 #[.agg #[.int .i64 2, .slice ap np cp, .slice av nv cv, .slice ak nk ck], .int .i64 (hh : Int)] w fun e w' => (∃ x, e = .returned (.tuple #[x, .bool false])) ∧ Below w.heap.size w w' := by
  have HB : Hid (Below w.heap.size w (w.alloc (.cells #[.int .i64 2, .slice ap np cp, .slice av nv cv, .slice ak nk ck] 25))) := (Below.refl _ _).alloc (Nat.le_refl _) _
  obtain ⟨hh0, q0, q1, q2, q3⟩ := Bx_new w (.int .i64 2, .slice ap np cp, .slice av nv cv, .slice ak nk ck)
  dsimp only at q0 q1 q2 q3
  have e0 : ((np : Int) == 0) = false := beq_eq_false_iff_ne.2 (by omega)
  have e0' : (np == 0) = false := beq_eq_false_iff_ne.2 (by omega)
  have VW : Sp.Vw p ap (w.alloc (.cells #[.int .i64 2, .slice ap np cp, .slice av nv cv, .slice ak nk ck] 25)) := Sp.Vw_al vw _
  have KP : Hid (∀ wx : World, Sp.Vw p ap wx → Calls Try.prog 39 #[.slice ap np cp] wx fun e w' => e = .returned (.bool true) ∧ w' = wx) := fun wx hv => by
    subst hn
    refine (ispath_any p ap cp wx (by show (_ : Int) ≤ _; omega) hv).mono fun e w' h => ⟨?_, h.2⟩
    rw [h.1, show pb p = true from hp]
  have e1 : ((nk : Int) == 1) = false := beq_eq_false_iff_ne.2 (by omega)
  have e2 : (nk == 1) = false := beq_eq_false_iff_ne.2 hk
  have e3 : ((nk : Int) != 1) = true := bne_iff_ne.2 (by omega)
  have e4 : (nk != 1) = true := bne_iff_ne.2 hk
  clear hn hz h0 vw hp
  go_enter Try.func41, Try.ntmps41
  go_wp2_with fail
  refine (KP.out _ VW).mono ?_
  rintro e w1 ⟨rfl, rfl⟩
  go_wp2_with fail
  go_ret2
  exact ⟨⟨_, rfl⟩, HB.out⟩
set_option maxHeartbeats 2000000 in
set_option maxRecDepth 100000 in
theorem rroad_kind (ap av : Option Addr) (np cp nv cv ck hh gk off : Nat) (w : World) (p : By) (hn : np = p.length) (hz : np ≤ 4194304) (h0 : 0 < np) (vw : Sp.Vw p ap w) (hp : ptb p = true) (q : Int) (hgk0 : gk < w.heap.size) (c0 : w.cell? ⟨gk, off, none⟩ = some (.int .i64 q)) (hq : q ≠ 3) :
    Calls Try.prog 41 #[.agg #[.int .i64 2, .slice ap np cp, .slice av nv cv, .slice (some ⟨gk, off, none⟩) 1 ck], .int .i64 (hh : Int)] w fun e w' => (∃ x, e = .returned (.tuple #[x, .bool false])) ∧ Below w.heap.size w w' := by
  have HB : Hid (Below w.heap.size w (w.alloc (.cells #[.int .i64 2, .slice ap np cp, .slice av nv cv, .slice (some ⟨gk, off, none⟩) 1 ck] 25))) := (Below.refl _ _).alloc (Nat.le_refl _) _
  obtain ⟨hh0, q0, q1, q2, q3⟩ := Bx_new w (.int .i64 2, .slice ap np cp, .slice av nv cv, .slice (some ⟨gk, off, none⟩) 1 ck)
  dsimp only at q0 q1 q2 q3
  have e0 : ((np : Int) == 0) = false := beq_eq_false_iff_ne.2 (by omega)
  have e0' : (np == 0) = false := beq_eq_false_iff_ne.2 (by omega)
  have VW : Sp.Vw p ap (w.alloc (.cells #[.int .i64 2, .slice ap np cp, .slice av nv cv, .slice (some ⟨gk, off, none⟩) 1 ck] 25)) := Sp.Vw_al vw _
  have KP : Hid (∀ wx : World, Sp.Vw p ap wx → Calls Try.prog 39 #[.slice ap np cp] wx fun e w' => e = .returned (.bool true) ∧ w' = wx) := fun wx hv => by
    subst hn
    refine (ispath_any p ap cp wx (by show (_ : Int) ≤ _; omega) hv).mono fun e w' h => ⟨?_, h.2⟩
    rw [h.1, show pb p = true from hp]
  have k0 := (HB.out.cell (p := ⟨gk, off, none⟩) hgk0).trans c0
  have e3 : (q != 3) = true := bne_iff_ne.2 hq
  clear hn hz h0 vw hp c0
  go_enter Try.func41, Try.ntmps41
  go_wp2_with fail
  refine (KP.out _ VW).mono ?_
  rintro e w1 ⟨rfl, rfl⟩
  go_wp2_with fail
  go_ret2
  exact ⟨⟨_, rfl⟩, HB.out⟩
inductive RRI (W0 : World) (G : Option Addr → World → Prop) (ok : Bool) (ap av : Option Addr) (np cp nv cv ck hh gk off g0 : Nat) (b1 b2 b3 : Option Addr) (m1 d1 m2 d2 m3 d3 : Nat) (d : Nat → Bool) (x : Act) (wx : World) : Prop where
  | mk (u6 u7 u34 u35 u36 u37 u38 u39 u40 u41 u42 u43 u44 u45 u46 : Value) (hx : x = { tmps := #[.agg #[.int .i64 2, .slice ap np cp, .slice av nv cv, .slice (some ⟨gk, off, none⟩) 1 ck], .int .i64 (hh : Int), .pointer (some ⟨g0, 0, none⟩), undef, .nilIface, .bool false, u6, u7, .pointer (some ⟨g0, 1, none⟩), .slice ap np cp, .int .i64 (np : Int), .bool false, .bool false, .pointer (some ⟨g0, 1, none⟩), .slice ap np cp, .bool true, .bool false, .bool false, undef, undef, .pointer (some ⟨g0, 3, none⟩), .slice (some ⟨gk, off, none⟩) 1 ck, .int .i64 1, .bool false, .bool false, .pointer (some ⟨g0, 3, none⟩), .slice (some ⟨gk, off, none⟩) 1 ck, .pointer (some ⟨gk, off, none⟩), .pointer (some ⟨gk, off, none⟩), .int .i64 3, .bool false, .bool false, undef, undef, u34, u35, u36, u37, u38, u39, u40, u41, u42, u43, u44, u45, u46, undef, undef, undef, undef, undef, undef], defers := [] }) (hw : Below W0.heap.size W0 wx) (p0 : d 0 = true → u35 = .pointer (some ⟨g0, 3, none⟩)) (p1 : d 1 = true → u36 = .slice (some ⟨gk, off, none⟩) 1 ck) (p2 : d 2 = true → u37 = .pointer (some ⟨gk, off, none⟩)) (p3 : d 3 = true → u38 = .agg #[.int .i64 3, .slice b1 m1 d1, .slice b2 m2 d2, .slice b3 m3 d3]) (p4 : d 4 = true → u39 = .int .i64 (hh : Int)) (p5 : d 5 = true → u40 = .pointer (some ⟨g0, 1, none⟩)) (p6 : d 6 = true → u41 = .slice ap np cp) (p7 : d 7 = true → u42 = .int .i64 (np : Int)) (p8 : d 8 = true → u43 = .int .i64 ((hh + np : Nat) : Int)) (p12 : d 12 = true → u46 = .bool ok) (p14 : d 14 = true → u7 = .bool ok) (z9 : d 9 = true → ∃ x, u44 = .tuple #[.pointer x, .bool ok] ∧ G x wx) (z10 : d 10 = true → ∃ x, u34 = .tuple #[.pointer x, .bool ok] ∧ G x wx) (z11 : d 11 = true → ∃ x, u45 = .pointer x ∧ G x wx) (z13 : d 13 = true → ∃ x, u6 = .pointer x ∧ G x wx) : RRI W0 G ok ap av np cp nv cv ck hh gk off g0 b1 b2 b3 m1 d1 m2 d2 m3 d3 d x wx
set_option maxHeartbeats 2000000 in
set_option maxRecDepth 100000 in
theorem rroad_fork (ap av : Option Addr) (np cp nv cv ck hh gk off : Nat) (w : World) (p : By) (hn : np = p.length) (hz : np ≤ 4194304) (h0 : 0 < np) (vw : Sp.Vw p ap w) (hp : ptb p = true) (hh6 : hh ≤ 4194304) (b1 b2 b3 : Option Addr) (m1 d1 m2 d2 m3 d3 : Nat) (hgk0 : gk < w.heap.size) (c0 : w.cell? ⟨gk, off, none⟩ = some (.int .i64 3)) (c1 : w.cell? ⟨gk, off + 1, none⟩ = some (.slice b1 m1 d1)) (c2 : w.cell? ⟨gk, off + 2, none⟩ = some (.slice b2 m2 d2)) (c3 : w.cell? ⟨gk, off + 3, none⟩ = some (.slice b3 m3 d3)) (ok : Bool) (G : Option Addr → World → Prop) (GB : Hid (∀ x w w', G x w → Below w.heap.size w w' → G x w')) (KR0 : Hid (∀ wx : World, Below w.heap.size w wx → Calls Try.prog 42 #[.agg #[.int .i64 3, .slice b1 m1 d1, .slice b2 m2 d2, .slice b3 m3 d3], .int .i64 ((hh + np : Nat) : Int)] wx fun e w' => ∃ x, e = .returned (.tuple #[.pointer x, .bool ok]) ∧ G x w' ∧ Below wx.heap.size wx w')) :
    Calls Try.prog 41 #[.agg #[.int .i64 2, .slice ap np cp, .slice av nv cv, .slice (some ⟨gk, off, none⟩) 1 ck], .int .i64 (hh : Int)] w fun e w' => ∃ x, e = .returned (.tuple #[.iface 82 (.agg #[.slice ap np cp, .pointer x]), .bool ok]) ∧ G x w' ∧ Below w.heap.size w w' := by
  have HB : Hid (Below w.heap.size w (w.alloc (.cells #[.int .i64 2, .slice ap np cp, .slice av nv cv, .slice (some ⟨gk, off, none⟩) 1 ck] 25))) := (Below.refl _ _).alloc (Nat.le_refl _) _
  obtain ⟨hh0, q0, q1, q2, q3⟩ := Bx_new w (.int .i64 2, .slice ap np cp, .slice av nv cv, .slice (some ⟨gk, off, none⟩) 1 ck)
  dsimp only at q0 q1 q2 q3
  have e0 : ((np : Int) == 0) = false := beq_eq_false_iff_ne.2 (by omega)
  have e0' : (np == 0) = false := beq_eq_false_iff_ne.2 (by omega)
  have VW : Sp.Vw p ap (w.alloc (.cells #[.int .i64 2, .slice ap np cp, .slice av nv cv, .slice (some ⟨gk, off, none⟩) 1 ck] 25)) := Sp.Vw_al vw _
  have KP : Hid (∀ wx : World, Sp.Vw p ap wx → Calls Try.prog 39 #[.slice ap np cp] wx fun e w' => e = .returned (.bool true) ∧ w' = wx) := fun wx hv => by
    subst hn
    refine (ispath_any p ap cp wx (by show (_ : Int) ≤ _; omega) hv).mono fun e w' h => ⟨?_, h.2⟩
    rw [h.1, show pb p = true from hp]
  have k0 := (HB.out.cell (p := ⟨gk, off, none⟩) hgk0).trans c0
  have k1 := (HB.out.cell (p := ⟨gk, off + 1, none⟩) hgk0).trans c1
  have k2 := (HB.out.cell (p := ⟨gk, off + 2, none⟩) hgk0).trans c2
  have k3 := (HB.out.cell (p := ⟨gk, off + 3, none⟩) hgk0).trans c3
  have hgk : gk < (w.alloc (.cells #[.int .i64 2, .slice ap np cp, .slice av nv cv, .slice (some ⟨gk, off, none⟩) 1 ck] 25)).heap.size := Nat.lt_of_lt_of_le hgk0 HB.out.size
  have E1 : Hid (IntKind.i64.wrap ((hh : Int) + (np : Int)) = ((hh + np : Nat) : Int)) := wrap_add _ _ (by omega) (by omega)
  have KR : Hid (∀ wx : World, Below (w.alloc (.cells #[.int .i64 2, .slice ap np cp, .slice av nv cv, .slice (some ⟨gk, off, none⟩) 1 ck] 25)).heap.size (w.alloc (.cells #[.int .i64 2, .slice ap np cp, .slice av nv cv, .slice (some ⟨gk, off, none⟩) 1 ck] 25)) wx → Calls Try.prog 42 #[.agg #[.int .i64 3, .slice b1 m1 d1, .slice b2 m2 d2, .slice b3 m3 d3], .int .i64 ((hh + np : Nat) : Int)] wx fun e w' => ∃ x, e = .returned (.tuple #[.pointer x, .bool ok]) ∧ G x w' ∧ Below wx.heap.size wx w') := fun wx hb => KR0.out wx (HB.out.trans (hb.mono HB.out.size))
  clear hn hz h0 vw hp c0 c1 c2 c3 KR0 hgk0 hh6
  go_enter Try.func41, Try.ntmps41
  go_wp2_with fail
  refine (KP.out _ VW).mono ?_
  rintro e w1 ⟨rfl, rfl⟩
  go_upto_region 5 with fail
  have HB' := HB.out
  generalize (w.alloc (.cells #[.int .i64 2, .slice ap np cp, .slice av nv cv, .slice (some ⟨gk, off, none⟩) 1 ck] 25)) = W0 at *
  have HG : Hid (w.heap.size ≤ W0.heap.size) := HB'.size
  have hw0 : Below W0.heap.size W0 W0.drew := (Below.refl _ _).drew
  generalize hg0 : w.heap.size = g0 at *
  refine RI.wp_region_inv (RRI W0 G ok ap av np cp nv cv ck hh gk off g0 b1 b2 b3 m1 d1 m2 d2 m3 d3) (by kernel_rfl) (by kernel_rfl) ?_ ?_ ?_
  · exact ⟨undef, undef, undef, undef, undef, undef, undef, undef, undef, undef, undef, undef, undef, undef, undef, rfl, hw0, nofun, nofun, nofun, nofun, nofun, nofun, nofun, nofun, nofun, nofun, nofun, nofun, nofun, nofun, nofun⟩
  · skip
    intro d x wx i hI hi hm
    obtain ⟨u6, u7, u34, u35, u36, u37, u38, u39, u40, u41, u42, u43, u44, u45, u46, rfl, hw, p0, p1, p2, p3, p4, p5, p6, p7, p8, p12, p14, z9, z10, z11, z13⟩ := hI
    have hi' : i = 0 ∨ i = 1 ∨ i = 2 ∨ i = 3 ∨ i = 4 ∨ i = 5 ∨ i = 6 ∨ i = 7 ∨ i = 8 ∨ i = 9 ∨ i = 10 ∨ i = 11 ∨ i = 12 ∨ i = 13 ∨ i = 14 := by simp at hi; omega
    have hd := hm.2
    have hf := hm.1
    clear hm hi
    rcases hi' with rfl | rfl | rfl | rfl | rfl | rfl | rfl | rfl | rfl | rfl | rfl | rfl | rfl | rfl | rfl
    · refine RI.wpOp_plain rfl rfl ?_
      go_simp
      exact ⟨u6, u7, u34, _, u36, u37, u38, u39, u40, u41, u42, u43, u44, u45, u46, rfl, hw, fun _ => rfl, p1, p2, p3, p4, p5, p6, p7, p8, p12, p14, z9, z10, z11, z13⟩
    · have hd := hd _ rfl
      simp [Region.binds] at hd
      obtain rfl := p0 (by simp [hd])
      refine RI.wpOp_plain rfl rfl ?_
      have x0 := (hw.cell (p := ⟨g0, 3, none⟩) hh0).trans q3
      go_simp
      exact ⟨u6, u7, u34, _, _, u37, u38, u39, u40, u41, u42, u43, u44, u45, u46, rfl, hw, p0, fun _ => rfl, p2, p3, p4, p5, p6, p7, p8, p12, p14, z9, z10, z11, z13⟩
    · have hd := hd _ rfl
      simp [Region.binds] at hd
      obtain rfl := p1 (by simp [hd])
      refine RI.wpOp_plain rfl rfl ?_
      go_simp
      exact ⟨u6, u7, u34, u35, _, _, u38, u39, u40, u41, u42, u43, u44, u45, u46, rfl, hw, p0, p1, fun _ => rfl, p3, p4, p5, p6, p7, p8, p12, p14, z9, z10, z11, z13⟩
    · have hd := hd _ rfl
      simp [Region.binds] at hd
      obtain rfl := p2 (by simp [hd])
      refine RI.wpOp_plain rfl rfl ?_
      have x0 := (hw.cell (p := ⟨gk, off, none⟩) hgk).trans k0
      have x1 := (hw.cell (p := ⟨gk, off + 1, none⟩) hgk).trans k1
      have x2 := (hw.cell (p := ⟨gk, off + 2, none⟩) hgk).trans k2
      have x3 := (hw.cell (p := ⟨gk, off + 3, none⟩) hgk).trans k3
      go_simp
      exact ⟨u6, u7, u34, u35, u36, _, _, u39, u40, u41, u42, u43, u44, u45, u46, rfl, hw, p0, p1, p2, fun _ => rfl, p4, p5, p6, p7, p8, p12, p14, z9, z10, z11, z13⟩
    · refine RI.wpOp_plain rfl rfl ?_
      go_simp
      exact ⟨u6, u7, u34, u35, u36, u37, u38, _, u40, u41, u42, u43, u44, u45, u46, rfl, hw, p0, p1, p2, p3, fun _ => rfl, p5, p6, p7, p8, p12, p14, z9, z10, z11, z13⟩
    · refine RI.wpOp_plain rfl rfl ?_
      go_simp
      exact ⟨u6, u7, u34, u35, u36, u37, u38, u39, _, u41, u42, u43, u44, u45, u46, rfl, hw, p0, p1, p2, p3, p4, fun _ => rfl, p6, p7, p8, p12, p14, z9, z10, z11, z13⟩
    · have hd := hd _ rfl
      simp [Region.binds] at hd
      obtain rfl := p5 (by simp [hd])
      refine RI.wpOp_plain rfl rfl ?_
      have x0 := (hw.cell (p := ⟨g0, 1, none⟩) hh0).trans q1
      go_simp
      exact ⟨u6, u7, u34, u35, u36, u37, u38, u39, _, _, u42, u43, u44, u45, u46, rfl, hw, p0, p1, p2, p3, p4, p5, fun _ => rfl, p7, p8, p12, p14, z9, z10, z11, z13⟩
    · have hd := hd _ rfl
      simp [Region.binds] at hd
      obtain rfl := p6 (by simp [hd])
      refine RI.wpOp_plain rfl rfl ?_
      go_simp
      exact ⟨u6, u7, u34, u35, u36, u37, u38, u39, u40, _, _, u43, u44, u45, u46, rfl, hw, p0, p1, p2, p3, p4, p5, p6, fun _ => rfl, p8, p12, p14, z9, z10, z11, z13⟩
    · have hd := hd _ rfl
      simp [Region.binds] at hd
      obtain rfl := p4 (by simp [hd])
      obtain rfl := p7 (by simp [hd])
      refine RI.wpOp_plain rfl rfl ?_
      have e1 := E1.out
      go_simp
      exact ⟨u6, u7, u34, u35, u36, u37, u38, _, u40, u41, _, _, u44, u45, u46, rfl, hw, p0, p1, p2, p3, p4, p5, p6, p7, fun _ => rfl, p12, p14, z9, z10, z11, z13⟩
    · have hd := hd _ rfl
      simp [Region.binds] at hd
      obtain rfl := p3 (by simp [hd])
      obtain rfl := p8 (by simp [hd])
      refine RI.wpOp_plain rfl rfl ?_
      go_simp
      refine (KR.out _ hw).mono ?_
      rintro e w1 ⟨x9, rfl, g9, hb1⟩
      exact ⟨u6, u7, u34, u35, u36, u37, _, u39, u40, u41, u42, _, _, u45, u46, rfl, hw.trans (hb1.mono hw.size), p0, p1, p2, p3, p4, p5, p6, p7, p8, p12, p14, fun _ => ⟨_, rfl, g9⟩, (fun h => (z10 h).imp fun x hx => ⟨hx.1, GB.out _ _ _ hx.2 hb1⟩), (fun h => (z11 h).imp fun x hx => ⟨hx.1, GB.out _ _ _ hx.2 hb1⟩), (fun h => (z13 h).imp fun x hx => ⟨hx.1, GB.out _ _ _ hx.2 hb1⟩)⟩
    · have hd := hd _ rfl
      simp [Region.binds] at hd
      refine RI.wpOp_plain rfl rfl ?_
      obtain ⟨x9, rfl, g9⟩ := z9 (by simp [hd])
      go_simp
      exact ⟨u6, u7, _, u35, u36, u37, u38, u39, u40, u41, u42, u43, _, u45, u46, rfl, hw, p0, p1, p2, p3, p4, p5, p6, p7, p8, p12, p14, z9, fun _ => ⟨_, rfl, g9⟩, z11, z13⟩
    · have hd := hd _ rfl
      simp [Region.binds] at hd
      refine RI.wpOp_plain rfl rfl ?_
      obtain ⟨x9, rfl, g9⟩ := z10 (by simp [hd])
      go_simp
      exact ⟨u6, u7, _, u35, u36, u37, u38, u39, u40, u41, u42, u43, u44, _, u46, rfl, hw, p0, p1, p2, p3, p4, p5, p6, p7, p8, p12, p14, z9, z10, fun _ => ⟨_, rfl, g9⟩, z13⟩
    · have hd := hd _ rfl
      simp [Region.binds] at hd
      refine RI.wpOp_plain rfl rfl ?_
      obtain ⟨x9, rfl, g9⟩ := z10 (by simp [hd])
      go_simp
      exact ⟨u6, u7, _, u35, u36, u37, u38, u39, u40, u41, u42, u43, u44, u45, _, rfl, hw, p0, p1, p2, p3, p4, p5, p6, p7, p8, fun _ => rfl, p14, z9, z10, z11, z13⟩
    · have hd := hd _ rfl
      simp [Region.binds] at hd
      obtain rfl := p0 (by simp [hd])
      obtain rfl := p1 (by simp [hd])
      obtain rfl := p2 (by simp [hd])
      obtain rfl := p3 (by simp [hd])
      obtain rfl := p4 (by simp [hd])
      obtain rfl := p5 (by simp [hd])
      obtain rfl := p6 (by simp [hd])
      obtain rfl := p7 (by simp [hd])
      obtain rfl := p8 (by simp [hd])
      refine RI.wpOp_plain rfl rfl ?_
      obtain ⟨x9, rfl, g9⟩ := z11 (by simp [hd])
      go_simp
      exact ⟨_, u7, u34, _, _, _, _, _, _, _, _, _, u44, _, u46, rfl, hw, p0, p1, p2, p3, p4, p5, p6, p7, p8, p12, p14, z9, z10, z11, fun _ => ⟨_, rfl, g9⟩⟩
    · have hd := hd _ rfl
      simp [Region.binds] at hd
      obtain rfl := p0 (by simp [hd])
      obtain rfl := p1 (by simp [hd])
      obtain rfl := p2 (by simp [hd])
      obtain rfl := p3 (by simp [hd])
      obtain rfl := p4 (by simp [hd])
      obtain rfl := p5 (by simp [hd])
      obtain rfl := p6 (by simp [hd])
      obtain rfl := p7 (by simp [hd])
      obtain rfl := p8 (by simp [hd])
      obtain rfl := p12 (by simp [hd])
      refine RI.wpOp_plain rfl rfl ?_
      go_simp
      exact ⟨u6, _, u34, _, _, _, _, _, _, _, _, _, u44, u45, _, rfl, hw, p0, p1, p2, p3, p4, p5, p6, p7, p8, p12, fun _ => rfl, z9, z10, z11, z13⟩
  · skip
    intro d x wx hI hd
    obtain ⟨u6, u7, u34, u35, u36, u37, u38, u39, u40, u41, u42, u43, u44, u45, u46, rfl, hw, p0, p1, p2, p3, p4, p5, p6, p7, p8, p12, p14, z9, z10, z11, z13⟩ := hI
    obtain ⟨x6, rfl, g6⟩ := z13 (hd 13 (by decide))
    obtain rfl := p14 (hd 14 (by decide))
    clear p0 p1 p2 p3 p4 p5 p6 p7 p8 p12 z9 z10 z11 z13 p14
    have x0 := (hw.cell (p := ⟨g0, 1, none⟩) hh0).trans q1
    have HG6 : Hid (G x6 wx) := g6
    have HZ : Hid (Below w.heap.size w wx) := by show Below _ _ _; rw [hg0]; exact HB'.trans (hw.mono HG.out)
    clear g6 hw HB HB'
    go_wp2_with fail
    go_ret2
    exact ⟨x6, rfl, HG6.out, HZ.out⟩
end Tr
end Go.Proofs.Ytdcbgldelfhohaa
/- tree.readFork: what a round keeps. -/
namespace Go.Proofs.Ytdcbgldelfhohaa
namespace Tr
open Nb Go.RowKit
/-- Where the fork stands behind so many rounds. -/
def FL (lo g : Nat) (vv : Value) (ks : List Nd) (k : Nat) (wr : World) : Prop :=
  ∃ (c : Array Value) (D : Nat → Nat → Prop), wr.heap[g]? = some (.cells c 98 (0, 0)) ∧ c.size = 17 ∧ c.getD 0 undef = vv ∧ (∀ j, j < k → In lo wr (ks.getD j Nd.no) (c.getD (j + 1) undef) (D j)) ∧ (∀ j x, j < k → D j x → g < x ∧ x < wr.heap.size) ∧ ∀ i j x, i < k → j < k → D i x → D j x → i = j
theorem heap_setCell_same {w : World} {g o : Nat} {c : Array Value} {ty : TypeId} {fz : Nat × Nat} (h : w.heap[g]? = some (.cells c ty fz)) (x : Value) : (w.setCell ⟨g, o, none⟩ x).heap[g]? = some (.cells (c.setIfInBounds o x) ty fz) := by
  unfold World.setCell
  simp only [Array.getElem?_modify, h]
  simp
theorem heap_setCell_other {w : World} {g o k : Nat} (x : Value) (h : k ≠ g) : (w.setCell ⟨g, o, none⟩ x).heap[k]? = w.heap[k]? := by
  unfold World.setCell
  simp only [Array.getElem?_modify]
  rw [if_neg (fun e => h e.symm)]
theorem setCell_size {w : World} {a : Addr} (x : Value) : (w.setCell a x).heap.size = w.heap.size := by
  unfold World.setCell
  simp
/-- A store into a fork. -/
theorem ch_set {lo g o : Nat} {w : World} {c : Array Value} (x : Value) (hlo : lo ≤ g) (h : w.heap[g]? = some (.cells c 98 (0, 0))) : Ch lo (· = g) w (w.setCell ⟨g, o, none⟩ x) := by
  refine ⟨rfl, rfl, rfl, by rw [setCell_size]; exact Nat.le_refl _, fun k hk hn => ?_⟩
  by_cases e : k = g
  · subst e
    exact absurd ⟨rfl, hlo, c, h⟩ hn
  · exact heap_setCell_other x e
theorem FL_below {lo g : Nat} {vv : Value} {ks : List Nd} {k : Nat} {wr w' : World} (h : FL lo g vv ks k wr) (hb : Below wr.heap.size wr w') : FL lo g vv ks k w' := by
  obtain ⟨c, D, h1, h2, h3, h4, h5, h6⟩ := h
  refine ⟨c, D, by rw [hb.block g (Pk.lt_of_heap h1)]; exact h1, h2, h3, fun j hj => In_below (h4 j hj) hb, fun j x hj hx => ⟨(h5 j x hj hx).1, Nat.lt_of_lt_of_le (h5 j x hj hx).2 hb.size⟩, h6⟩
theorem FL_lt {lo g : Nat} {vv : Value} {ks : List Nd} {k : Nat} {wr : World} (h : FL lo g vv ks k wr) : g < wr.heap.size := by
  obtain ⟨c, D, h1, _⟩ := h
  exact Pk.lt_of_heap h1
theorem getD_setIf (c : Array Value) (i j : Nat) (x : Value) (hi : i < c.size) : (c.setIfInBounds i x).getD j undef = if j = i then x else c.getD j undef := by
  rw [Array.getD_eq_getD_getElem?, Array.getD_eq_getD_getElem?, Array.getElem?_setIfInBounds]
  by_cases e : i = j
  · rw [if_pos e, if_pos e.symm, if_pos hi]; rfl
  · rw [if_neg e, if_neg (fun h => e h.symm)]
theorem FL_step {lo g : Nat} {vv x : Value} {ks : List Nd} {k : Nat} {wa w1 : World} (hk : k < 16) (hlo : lo ≤ g) (h : FL lo g vv ks k wa) (hb : Below wa.heap.size wa w1) (hx : In lo w1 (ks.getD k Nd.no) x (fun y => wa.heap.size ≤ y)) : FL lo g vv ks (k + 1) (w1.setCell ⟨g, 1 + k, none⟩ x) := by
  have hga := FL_lt h
  obtain ⟨c, D, h1, h2, h3, h4, h5, h6⟩ := h
  have b1 : w1.heap[g]? = some (.cells c 98 (0, 0)) := by rw [hb.block g hga]; exact h1
  have hch : Ch lo (· = g) w1 (w1.setCell ⟨g, 1 + k, none⟩ x) := ch_set x hlo b1
  have hx' := In_lt hx
  refine ⟨c.setIfInBounds (1 + k) x, fun j y => if j = k then (wa.heap.size ≤ y ∧ y < w1.heap.size) else D j y, heap_setCell_same b1 x, by simp [h2], by rw [getD_setIf _ _ _ _ (by omega), if_neg (by omega)]; exact h3, fun j hj => ?_, fun j y hj hy => ?_, fun i j y hi hj hy hz => ?_⟩
  · rw [getD_setIf _ _ _ _ (by omega)]
    by_cases e : j = k
    · subst e
      rw [if_pos (by omega)]
      simp only [if_true]
      exact In_ch hx' hch (fun y _ hy e => by have := hy.1; omega)
    · rw [if_neg (by omega)]
      simp only [if_neg e]
      exact In_ch (In_below (h4 j (by omega)) hb) hch (fun y _ hy e => by have := (h5 j y (by omega) hy).1; omega)
  · rw [setCell_size]
    by_cases e : j = k
    · simp only [if_pos e] at hy
      omega
    · simp only [if_neg e] at hy
      have := h5 j y (by omega) hy
      have := hb.size
      omega
  · by_cases e : i = k
    · by_cases e2 : j = k
      · omega
      · simp only [if_pos e, if_neg e2] at hy hz
        have := (h5 j y (by omega) hz).2
        omega
    · by_cases e2 : j = k
      · simp only [if_neg e, if_pos e2] at hy hz
        have := (h5 i y (by omega) hy).2
        omega
      · simp only [if_neg e, if_neg e2] at hy hz
        exact h6 i j y (by omega) (by omega) hy hz
theorem FL_start {lo g : Nat} {vv : Value} {ks : List Nd} {w : World} {c : Array Value} (h1 : w.heap[g]? = some (.cells c 98 (0, 0))) (h2 : c.size = 17) (h3 : c.getD 0 undef = vv) : FL lo g vv ks 0 w :=
  ⟨c, fun _ _ => False, h1, h2, h3, fun j hj => absurd hj (by omega), fun j x hj => absurd hj (by omega), fun i j x hi => absurd hi (by omega)⟩
theorem FL_in {lo g : Nat} {p v : By} {vv : Value} {ks : List Nd} {w : World} {B : Nat} (h : FL lo g vv ks 16 w) (hl : ks.length = 16) (hlo : lo ≤ g) (hv : Bs (Sb lo w) v vv w) (hB : B ≤ g) : In lo w (.mk 3 p v ks) (.iface 73 (.pointer (some ⟨g, 0, none⟩))) (fun x => B ≤ x) := by
  obtain ⟨c, D, h1, h2, h3, h4, h5, h6⟩ := h
  exact .fork p v ks g c _ D hl hlo h1 h2 hB (by rw [h3]; exact hv) h4 (fun j hj hg => by have := (h5 j g hj hg).1; omega) h6 (fun j x hj hx => by have := (h5 j x hj hx).1; omega)
theorem dec2 (n : Nat) : decide (2 ≤ n) = decide ((2 : Int) ≤ (n : Int)) := by
  rw [decide_eq_decide]; omega
theorem FL_cell {lo g : Nat} {vv : Value} {ks : List Nd} {k : Nat} {w : World} (h : FL lo g vv ks k w) {j : Nat} (hj : j < 16) : ∃ x, w.cell? ⟨g, 1 + j, none⟩ = some x := by
  obtain ⟨c, D, h1, h2, _⟩ := h
  exact ⟨_, cell_fork h1 (1 + j) (by omega)⟩
theorem FL_frozen {lo g : Nat} {vv : Value} {ks : List Nd} {k : Nat} {w : World} (h : FL lo g vv ks k w) (o : Nat) : w.frozen? ⟨g, o, none⟩ = false := by
  obtain ⟨c, D, h1, h2, _⟩ := h
  unfold World.frozen?
  simp [h1]
theorem all_no {okf : Nat → Bool} {k : Nat} {b : Bool} (hk : k < 16) (h : okf k = false) : ((List.range 16).all okf && b) = false := by
  rw [Bool.and_eq_false_iff]
  left
  rw [List.all_eq_false]
  exact ⟨k, List.mem_range.2 hk, by rw [h]; decide⟩
set_option maxHeartbeats 2000000 in
set_option maxRecDepth 100000 in
theorem rfork_ok (ap av : Option Addr) (np cp nv cv ck hh gk off : Nat) (w : World) (lo : Nat) (hlo : lo ≤ w.heap.size) (ks : List Nd) (vs : List V4) (p v : By) (hl : ks.length = 16) (hh6 : hh ≤ 64) (hnv : nv = v.length) (hmv : v = [] ∨ may v hh = true)
    (hv : Bs (· < lo) v (.slice av nv cv) w) (hgk : gk < w.heap.size)
    (hc : Hid (∀ j, j < 16 → w.cell? ⟨gk, off + 4 * j, none⟩ = some (vs.getD j n4).1 ∧ w.cell? ⟨gk, off + 4 * j + 1, none⟩ = some (vs.getD j n4).2.1 ∧ w.cell? ⟨gk, off + 4 * j + 2, none⟩ = some (vs.getD j n4).2.2.1 ∧ w.cell? ⟨gk, off + 4 * j + 3, none⟩ = some (vs.getD j n4).2.2.2))
    (okf : Nat → Bool) (hf : Hid (∀ j, j < 16 → ∃ k a1 n1 c1 a2 n2 c2 a3 n3 c3, vs.getD j n4 = (.int .i64 k, .slice a1 n1 c1, .slice a2 n2 c2, .slice a3 n3 c3)))
    (KR : Hid (∀ j, j < 16 → ∀ wx : World, Below w.heap.size w wx → Calls Try.prog 22 #[v4 (vs.getD j n4), .int .i64 ((hh + 1 : Nat) : Int)] wx fun e w' => ∃ x, e = .returned (.tuple #[x, .bool (okf j)]) ∧ (okf j = true → In lo w' (ks.getD j Nd.no) x (fun y => wx.heap.size ≤ y)) ∧ Below wx.heap.size wx w')) :
    Calls Try.prog 42 #[.agg #[.int .i64 3, .slice ap np cp, .slice av nv cv, .slice (some ⟨gk, off, none⟩) 16 ck], .int .i64 (hh : Int)] w fun e w' => ∃ x, e = .returned (.tuple #[.pointer x, .bool ((List.range 16).all okf && decide (2 ≤ pts v ks))]) ∧ (((List.range 16).all okf && decide (2 ≤ pts v ks)) = true → ∃ g, x = some ⟨g, 0, none⟩ ∧ In lo w' (.mk 3 p v ks) (.iface 73 (.pointer (some ⟨g, 0, none⟩))) (fun y => w.heap.size ≤ y)) ∧ Below w.heap.size w w' := by
  have HB : Below w.heap.size w (w.alloc (.cells #[.int .i64 3, .slice ap np cp, .slice av nv cv, .slice (some ⟨gk, off, none⟩) 16 ck] 25)) := (Below.refl _ _).alloc (Nat.le_refl _) _
  obtain ⟨hh0, q0, q1, q2, q3⟩ := Bx_new w (.int .i64 3, .slice ap np cp, .slice av nv cv, .slice (some ⟨gk, off, none⟩) 16 ck)
  dsimp only at q0 q1 q2 q3
  have d64 : decide ((64 : Int) < (hh : Int)) = false := decide_eq_false (by omega)
  have E1 : Hid (wrap64 ((hh : Int) + 1) = ((hh + 1 : Nat) : Int)) := by show _ = _; unfold wrap64; omega
  have KM : Hid (∀ wx : World, Calls Try.prog 40 #[.slice av nv cv, .int .i64 (hh : Int)] wx fun e w' => e = .returned (.bool (may v hh)) ∧ w' = wx) := fun wx => by
    subst hnv
    exact mayhave_any v hh av cv wx
  have hS1 : (w.alloc (.cells #[.int .i64 3, .slice ap np cp, .slice av nv cv, .slice (some ⟨gk, off, none⟩) 16 ck] 25)).heap.size = w.heap.size + 1 := by simp
  have HB2 : Hid (Below w.heap.size w ((w.alloc (.cells #[.int .i64 3, .slice ap np cp, .slice av nv cv, .slice (some ⟨gk, off, none⟩) 16 ck] 25)).alloc (.cells #[.slice av nv cv, .nilIface, .nilIface, .nilIface, .nilIface, .nilIface, .nilIface, .nilIface, .nilIface, .nilIface, .nilIface, .nilIface, .nilIface, .nilIface, .nilIface, .nilIface, .nilIface] 98))) := HB.alloc (by rw [hS1]; omega) _
  have HA := heap_alloc_new (w.alloc (.cells #[.int .i64 3, .slice ap np cp, .slice av nv cv, .slice (some ⟨gk, off, none⟩) 16 ck] 25)) (.cells #[.slice av nv cv, .nilIface, .nilIface, .nilIface, .nilIface, .nilIface, .nilIface, .nilIface, .nilIface, .nilIface, .nilIface, .nilIface, .nilIface, .nilIface, .nilIface, .nilIface, .nilIface] 98)
  rw [hS1] at HA
  have F0 : FL lo (w.heap.size + 1) (.slice av nv cv) ks 0 ((w.alloc (.cells #[.int .i64 3, .slice ap np cp, .slice av nv cv, .slice (some ⟨gk, off, none⟩) 16 ck] 25)).alloc (.cells #[.slice av nv cv, .nilIface, .nilIface, .nilIface, .nilIface, .nilIface, .nilIface, .nilIface, .nilIface, .nilIface, .nilIface, .nilIface, .nilIface, .nilIface, .nilIface, .nilIface, .nilIface] 98)) := FL_start HA rfl rfl
  have HV : Hid (Bs (· < lo) v (.slice av nv cv) w) := hv
  have HN : Hid (nv = v.length) := hnv
  have KP : Hid (∀ wx : World, FL lo (w.heap.size + 1) (.slice av nv cv) ks 16 wx → Calls Try.prog 59 #[.pointer (some ⟨w.heap.size + 1, 0, none⟩)] wx fun e w' => e = .returned (.int .i64 (pts v ks : Nat)) ∧ Below wx.heap.size wx w') := fun wx hF => by
    obtain ⟨c, D, h1, h2, h3, h4, h5, h6⟩ := hF
    exact parts_any v ks (w.heap.size + 1) c wx av cv hl h1 h2 (by rw [h3, hnv]) (fun j hj w2 => isnone_in (h4 j hj) w2)
  have HR : Hid (lo ≤ w.heap.size) := hlo
  have HL : Hid (ks.length = 16) := hl
  clear hv HA hnv hlo hl
  by_cases h0 : nv = 0
  · have dn : decide ((0 : Int) < (nv : Int)) = false := decide_eq_false (by omega)
    have dn' : decide (0 < nv) = false := decide_eq_false (by omega)
    clear h0 hmv KM
    go_enter Try.func42, Try.ntmps42
    go_wp2_with fail
    generalize (w.alloc (.cells #[.int .i64 3, .slice ap np cp, .slice av nv cv, .slice (some ⟨gk, off, none⟩) 16 ck] 25)).alloc (.cells #[.slice av nv cv, .nilIface, .nilIface, .nilIface, .nilIface, .nilIface, .nilIface, .nilIface, .nilIface, .nilIface, .nilIface, .nilIface, .nilIface, .nilIface, .nilIface, .nilIface, .nilIface] 98) = W1 at *
    clear q0 q1 q2 q3 hh0 HB hS1
    go_loopw [37] (fun i wr => ∃ k : Nat, k ≤ 16 ∧ i = .int .i64 (k : Int) ∧ FL lo (w.heap.size + 1) (.slice av nv cv) ks k wr ∧ Below w.heap.size w wr ∧ ∀ j, j < k → okf j = true) (fun i _ => ((16 : Int) - intOf i).toNat)
    case atStart => exact ⟨0, Nat.zero_le _, rfl, F0, HB2.out, fun j hj => absurd hj (by omega)⟩
    case round =>
      obtain ⟨k, hk, rfl, hF, hB, hok⟩ := hrel
      by_cases hlt : k < 16
      · have d1 : decide ((k : Int) < 16) = true := decide_eq_true (by omega)
        have d2 : (0 : Int) ≤ (k : Int) := by omega
        have d3 : (k : Int) < 16 := by omega
        obtain ⟨y0, y1, y2, y3⟩ := hc.out k hlt
        obtain ⟨kk, b1, m1, d1', b2, m2, d2', b3, m3, d3', eF⟩ := hf.out k hlt
        have KRk := KR.out k hlt
        rw [eF] at y0 y1 y2 y3 KRk
        dsimp only [v4] at y0 y1 y2 y3 KRk
        have ec : ((hh + 1 : Nat) : Int) = (hh : Int) + 1 := by omega
        rw [ec] at KRk
        clear ec
        have z0 := (hB.cell (p := ⟨gk, off + 4 * k, none⟩) hgk).trans y0
        have z1 := (hB.cell (p := ⟨gk, off + 4 * k + 1, none⟩) hgk).trans y1
        have z2 := (hB.cell (p := ⟨gk, off + 4 * k + 2, none⟩) hgk).trans y2
        have z3 := (hB.cell (p := ⟨gk, off + 4 * k + 3, none⟩) hgk).trans y3
        rw [Nat.mul_comm 4 k] at z0 z1 z2 z3
        have HK : Hid (∀ wx : World, Below w.heap.size w wx → Calls Try.prog 22 #[.agg #[.int .i64 kk, .slice b1 m1 d1', .slice b2 m2 d2', .slice b3 m3 d3'], .int .i64 ((hh : Int) + 1)] wx fun e w' => ∃ x, e = .returned (.tuple #[x, .bool (okf k)]) ∧ (okf k = true → In lo w' (ks.getD k Nd.no) x (fun y => wx.heap.size ≤ y)) ∧ Below wx.heap.size wx w') := KRk
        have E5 : Hid (wrap64 ((k : Int) + 1) = ((k + 1 : Nat) : Int)) := by show _ = _; unfold wrap64; omega
        have HFk : Hid (FL lo (w.heap.size + 1) (.slice av nv cv) ks k wr) := hF
        have bA : Below wr.heap.size wr (wr.alloc (.cells #[.int .i64 kk, .slice b1 m1 d1', .slice b2 m2 d2', .slice b3 m3 d3'] 25)) := (Below.refl _ _).alloc (Nat.le_refl _) _
        have HFa : Hid (FL lo (w.heap.size + 1) (.slice av nv cv) ks k (wr.alloc (.cells #[.int .i64 kk, .slice b1 m1 d1', .slice b2 m2 d2', .slice b3 m3 d3'] 25))) := FL_below hF bA
        have HBa : Hid (Below w.heap.size w (wr.alloc (.cells #[.int .i64 kk, .slice b1 m1 d1', .slice b2 m2 d2', .slice b3 m3 d3'] 25))) := hB.trans (bA.mono hB.size)
        have HOK : Hid (∀ j, j < k → okf j = true) := hok
        clear y0 y1 y2 y3 KRk eF hF hok bA hB
        go_wp2_with fail
        refine (HK.out _ HBa.out).mono ?_
        rintro e w1 ⟨x, rfl, hi, hb1⟩
        have HI : Hid (okf k = true → In lo w1 (ks.getD k Nd.no) x (fun y => (wr.alloc (.cells #[.int .i64 kk, .slice b1 m1 d1', .slice b2 m2 d2', .slice b3 m3 d3'] 25)).heap.size ≤ y)) := hi
        have HB1 : Hid (Below (wr.alloc (.cells #[.int .i64 kk, .slice b1 m1 d1', .slice b2 m2 d2', .slice b3 m3 d3'] 25)).heap.size (wr.alloc (.cells #[.int .i64 kk, .slice b1 m1 d1', .slice b2 m2 d2', .slice b3 m3 d3'] 25)) w1) := hb1
        clear hi hb1 HK z0 z1 z2 z3
        generalize (wr.alloc (.cells #[.int .i64 kk, .slice b1 m1 d1', .slice b2 m2 d2', .slice b3 m3 d3'] 25)) = wa at *
        have HZ : Hid (Below w.heap.size w w1) := HBa.out.trans (HB1.out.mono HBa.out.size)
        cases hkk : okf k with
        | false =>
          have HA : Hid (((List.range 16).all okf && decide (2 ≤ pts v ks)) = false) := all_no hlt hkk
          go_wp2_with fail
          go_ret2
          exact ⟨none, by rw [HA.out]; rfl, fun h => absurd (HA.out.symm.trans h) (by decide), HZ.out⟩
        | true =>
          obtain ⟨ty, y, rfl⟩ := In_form (HI.out hkk)
          have HS : Hid (FL lo (w.heap.size + 1) (.slice av nv cv) ks (k + 1) (w1.setCell ⟨w.heap.size + 1, 1 + k, none⟩ (.iface ty y))) := FL_step hlt (by have := HR.out; omega) HFa.out HB1.out (HI.out hkk)
          have HBs : Hid (Below w.heap.size w (w1.setCell ⟨w.heap.size + 1, 1 + k, none⟩ (.iface ty y))) := HZ.out.setCell (by dsimp only; omega) _
          obtain ⟨cc, hcc⟩ := FL_cell (FL_below HFa.out HB1.out) hlt
          have hz := FL_frozen (FL_below HFa.out HB1.out) (1 + k)
          go_wp2_with fail
          exact ⟨⟨k + 1, hlt, by rw [Int.natCast_succ], HS.out, HBs.out, fun j hj => by
            by_cases e : j = k
            · rw [e]; exact hkk
            · exact HOK.out j (by omega)⟩, by simp only [intOf]; omega⟩
      · have d1 : decide ((k : Int) < 16) = false := decide_eq_false (by omega)
        have ek : k = 16 := by omega
        subst ek
        have HFk : Hid (FL lo (w.heap.size + 1) (.slice av nv cv) ks 16 wr) := hF
        have HBk : Hid (Below w.heap.size w wr) := hB
        have HOK : Hid ((List.range 16).all okf = true) := List.all_eq_true.2 (fun j hj => hok j (List.mem_range.1 hj))
        clear hF hB hok d1
        go_wp2_with fail
        refine (KP.out _ HFk.out).mono ?_
        rintro e w1 ⟨rfl, hb1⟩
        have HF1 : Hid (FL lo (w.heap.size + 1) (.slice av nv cv) ks 16 w1) := FL_below HFk.out hb1
        have HZ : Hid (Below w.heap.size w w1) := HBk.out.trans (hb1.mono HBk.out.size)
        clear hb1
        go_wp2_with fail
        go_ret2
        exact ⟨some ⟨w.heap.size + 1, 0, none⟩, by rw [HOK.out, Bool.true_and, dec2]; rfl, fun _ => ⟨_, rfl, FL_in HF1.out HL.out (by have := HR.out; omega) (Bs_lo (Bs_below HV.out HZ.out)) (by omega)⟩, HZ.out⟩
  · have hm : may v hh = true := by
      rcases hmv with h | h
      · have := HN.out
        rw [h] at this
        exact absurd this h0
      · exact h
    rw [hm] at KM
    have dn : decide ((0 : Int) < (nv : Int)) = true := decide_eq_true (by omega)
    have dn' : decide (0 < nv) = true := decide_eq_true (by omega)
    clear h0 hmv hm
    go_enter Try.func42, Try.ntmps42
    go_wp2_with fail
    refine (KM.out _).mono ?_
    rintro e w1 ⟨rfl, rfl⟩
    go_wp2_with fail
    generalize (w.alloc (.cells #[.int .i64 3, .slice ap np cp, .slice av nv cv, .slice (some ⟨gk, off, none⟩) 16 ck] 25)).alloc (.cells #[.slice av nv cv, .nilIface, .nilIface, .nilIface, .nilIface, .nilIface, .nilIface, .nilIface, .nilIface, .nilIface, .nilIface, .nilIface, .nilIface, .nilIface, .nilIface, .nilIface, .nilIface] 98) = W1 at *
    clear q0 q1 q2 q3 hh0 HB hS1
    go_loopw [37] (fun i wr => ∃ k : Nat, k ≤ 16 ∧ i = .int .i64 (k : Int) ∧ FL lo (w.heap.size + 1) (.slice av nv cv) ks k wr ∧ Below w.heap.size w wr ∧ ∀ j, j < k → okf j = true) (fun i _ => ((16 : Int) - intOf i).toNat)
    case atStart => exact ⟨0, Nat.zero_le _, rfl, F0, HB2.out, fun j hj => absurd hj (by omega)⟩
    case round =>
      obtain ⟨k, hk, rfl, hF, hB, hok⟩ := hrel
      by_cases hlt : k < 16
      · have d1 : decide ((k : Int) < 16) = true := decide_eq_true (by omega)
        have d2 : (0 : Int) ≤ (k : Int) := by omega
        have d3 : (k : Int) < 16 := by omega
        obtain ⟨y0, y1, y2, y3⟩ := hc.out k hlt
        obtain ⟨kk, b1, m1, d1', b2, m2, d2', b3, m3, d3', eF⟩ := hf.out k hlt
        have KRk := KR.out k hlt
        rw [eF] at y0 y1 y2 y3 KRk
        dsimp only [v4] at y0 y1 y2 y3 KRk
        have ec : ((hh + 1 : Nat) : Int) = (hh : Int) + 1 := by omega
        rw [ec] at KRk
        clear ec
        have z0 := (hB.cell (p := ⟨gk, off + 4 * k, none⟩) hgk).trans y0
        have z1 := (hB.cell (p := ⟨gk, off + 4 * k + 1, none⟩) hgk).trans y1
        have z2 := (hB.cell (p := ⟨gk, off + 4 * k + 2, none⟩) hgk).trans y2
        have z3 := (hB.cell (p := ⟨gk, off + 4 * k + 3, none⟩) hgk).trans y3
        rw [Nat.mul_comm 4 k] at z0 z1 z2 z3
        have HK : Hid (∀ wx : World, Below w.heap.size w wx → Calls Try.prog 22 #[.agg #[.int .i64 kk, .slice b1 m1 d1', .slice b2 m2 d2', .slice b3 m3 d3'], .int .i64 ((hh : Int) + 1)] wx fun e w' => ∃ x, e = .returned (.tuple #[x, .bool (okf k)]) ∧ (okf k = true → In lo w' (ks.getD k Nd.no) x (fun y => wx.heap.size ≤ y)) ∧ Below wx.heap.size wx w') := KRk
        have E5 : Hid (wrap64 ((k : Int) + 1) = ((k + 1 : Nat) : Int)) := by show _ = _; unfold wrap64; omega
        have HFk : Hid (FL lo (w.heap.size + 1) (.slice av nv cv) ks k wr) := hF
        have bA : Below wr.heap.size wr (wr.alloc (.cells #[.int .i64 kk, .slice b1 m1 d1', .slice b2 m2 d2', .slice b3 m3 d3'] 25)) := (Below.refl _ _).alloc (Nat.le_refl _) _
        have HFa : Hid (FL lo (w.heap.size + 1) (.slice av nv cv) ks k (wr.alloc (.cells #[.int .i64 kk, .slice b1 m1 d1', .slice b2 m2 d2', .slice b3 m3 d3'] 25))) := FL_below hF bA
        have HBa : Hid (Below w.heap.size w (wr.alloc (.cells #[.int .i64 kk, .slice b1 m1 d1', .slice b2 m2 d2', .slice b3 m3 d3'] 25))) := hB.trans (bA.mono hB.size)
        have HOK : Hid (∀ j, j < k → okf j = true) := hok
        clear y0 y1 y2 y3 KRk eF hF hok bA hB
        go_wp2_with fail
        refine (HK.out _ HBa.out).mono ?_
        rintro e w1 ⟨x, rfl, hi, hb1⟩
        have HI : Hid (okf k = true → In lo w1 (ks.getD k Nd.no) x (fun y => (wr.alloc (.cells #[.int .i64 kk, .slice b1 m1 d1', .slice b2 m2 d2', .slice b3 m3 d3'] 25)).heap.size ≤ y)) := hi
        have HB1 : Hid (Below (wr.alloc (.cells #[.int .i64 kk, .slice b1 m1 d1', .slice b2 m2 d2', .slice b3 m3 d3'] 25)).heap.size (wr.alloc (.cells #[.int .i64 kk, .slice b1 m1 d1', .slice b2 m2 d2', .slice b3 m3 d3'] 25)) w1) := hb1
        clear hi hb1 HK z0 z1 z2 z3
        generalize (wr.alloc (.cells #[.int .i64 kk, .slice b1 m1 d1', .slice b2 m2 d2', .slice b3 m3 d3'] 25)) = wa at *
        have HZ : Hid (Below w.heap.size w w1) := HBa.out.trans (HB1.out.mono HBa.out.size)
        cases hkk : okf k with
        | false =>
          have HA : Hid (((List.range 16).all okf && decide (2 ≤ pts v ks)) = false) := all_no hlt hkk
          go_wp2_with fail
          go_ret2
          exact ⟨none, by rw [HA.out]; rfl, fun h => absurd (HA.out.symm.trans h) (by decide), HZ.out⟩
        | true =>
          obtain ⟨ty, y, rfl⟩ := In_form (HI.out hkk)
          have HS : Hid (FL lo (w.heap.size + 1) (.slice av nv cv) ks (k + 1) (w1.setCell ⟨w.heap.size + 1, 1 + k, none⟩ (.iface ty y))) := FL_step hlt (by have := HR.out; omega) HFa.out HB1.out (HI.out hkk)
          have HBs : Hid (Below w.heap.size w (w1.setCell ⟨w.heap.size + 1, 1 + k, none⟩ (.iface ty y))) := HZ.out.setCell (by dsimp only; omega) _
          obtain ⟨cc, hcc⟩ := FL_cell (FL_below HFa.out HB1.out) hlt
          have hz := FL_frozen (FL_below HFa.out HB1.out) (1 + k)
          go_wp2_with fail
          exact ⟨⟨k + 1, hlt, by rw [Int.natCast_succ], HS.out, HBs.out, fun j hj => by
            by_cases e : j = k
            · rw [e]; exact hkk
            · exact HOK.out j (by omega)⟩, by simp only [intOf]; omega⟩
      · have d1 : decide ((k : Int) < 16) = false := decide_eq_false (by omega)
        have ek : k = 16 := by omega
        subst ek
        have HFk : Hid (FL lo (w.heap.size + 1) (.slice av nv cv) ks 16 wr) := hF
        have HBk : Hid (Below w.heap.size w wr) := hB
        have HOK : Hid ((List.range 16).all okf = true) := List.all_eq_true.2 (fun j hj => hok j (List.mem_range.1 hj))
        clear hF hB hok d1
        go_wp2_with fail
        refine (KP.out _ HFk.out).mono ?_
        rintro e w1 ⟨rfl, hb1⟩
        have HF1 : Hid (FL lo (w.heap.size + 1) (.slice av nv cv) ks 16 w1) := FL_below HFk.out hb1
        have HZ : Hid (Below w.heap.size w w1) := HBk.out.trans (hb1.mono HBk.out.size)
        clear hb1
        go_wp2_with fail
        go_ret2
        exact ⟨some ⟨w.heap.size + 1, 0, none⟩, by rw [HOK.out, Bool.true_and, dec2]; rfl, fun _ => ⟨_, rfl, FL_in HF1.out HL.out (by have := HR.out; omega) (Bs_lo (Bs_below HV.out HZ.out)) (by omega)⟩, HZ.out⟩
set_option maxHeartbeats 2000000 in
set_option maxRecDepth 100000 in
theorem rfork_deep (ap av ak : Option Addr) (np cp nv cv nk ck hh : Nat) (w : World) (h : 64 < hh) :
    Calls Try.prog 42 #[.agg #[.int .i64 3, .slice ap np cp, .slice av nv cv, .slice ak nk ck], .int .i64 (hh : Int)] w fun e w' => e = .returned (.tuple #[.pointer none, .bool false]) ∧ Below w.heap.size w w' := by
  have HB : Hid (Below w.heap.size w (w.alloc (.cells #[.int .i64 3, .slice ap np cp, .slice av nv cv, .slice ak nk ck] 25))) := (Below.refl _ _).alloc (Nat.le_refl _) _
  obtain ⟨hh0, q0, q1, q2, q3⟩ := Bx_new w (.int .i64 3, .slice ap np cp, .slice av nv cv, .slice ak nk ck)
  dsimp only at q0 q1 q2 q3
  have d64 : decide ((64 : Int) < (hh : Int)) = true := decide_eq_true (by omega)
  go_enter Try.func42, Try.ntmps42
  go_wp2_with fail
  go_ret2
  exact ⟨rfl, HB.out⟩
set_option maxHeartbeats 2000000 in
set_option maxRecDepth 100000 in
theorem rfork_kids (ap av ak : Option Addr) (np cp nv cv nk ck hh : Nat) (w : World) (h : hh ≤ 64) (hk : nk ≠ 16) :
    Calls Try.prog 42 #[.agg #[.int .i64 3, .slice ap np cp, .slice av nv cv, .slice ak nk ck], .int .i64 (hh : Int)] w fun e w' => e = .returned (.tuple #[.pointer none, .bool false]) ∧ Below w.heap.size w w' := by
  have HB : Hid (Below w.heap.size w (w.alloc (.cells #[.int .i64 3, .slice ap np cp, .slice av nv cv, .slice ak nk ck] 25))) := (Below.refl _ _).alloc (Nat.le_refl _) _
  obtain ⟨hh0, q0, q1, q2, q3⟩ := Bx_new w (.int .i64 3, .slice ap np cp, .slice av nv cv, .slice ak nk ck)
  dsimp only at q0 q1 q2 q3
  have d64 : decide ((64 : Int) < (hh : Int)) = false := decide_eq_false (by omega)
  have e3 : ((nk : Int) != 16) = true := bne_iff_ne.2 (by omega)
  have e4 : (nk != 16) = true := bne_iff_ne.2 hk
  clear hk
  go_enter Try.func42, Try.ntmps42
  go_wp2_with fail
  go_ret2
  exact ⟨rfl, HB.out⟩
set_option maxHeartbeats 2000000 in
set_option maxRecDepth 100000 in
theorem rfork_value (ap av ak : Option Addr) (np cp nv cv nk ck hh : Nat) (w : World) (h : hh ≤ 64) (hk : nk = 16) (v : By) (hnv : nv = v.length) (h0 : v ≠ []) (hm : may v hh = false) :
    Calls Try.prog 42 #[.agg #[.int .i64 3, .slice ap np cp, .slice av nv cv, .slice ak nk ck], .int .i64 (hh : Int)] w fun e w' => e = .returned (.tuple #[.pointer none, .bool false]) ∧ Below w.heap.size w w' := by
  have HB : Hid (Below w.heap.size w (w.alloc (.cells #[.int .i64 3, .slice ap np cp, .slice av nv cv, .slice ak nk ck] 25))) := (Below.refl _ _).alloc (Nat.le_refl _) _
  obtain ⟨hh0, q0, q1, q2, q3⟩ := Bx_new w (.int .i64 3, .slice ap np cp, .slice av nv cv, .slice ak nk ck)
  dsimp only at q0 q1 q2 q3
  have d64 : decide ((64 : Int) < (hh : Int)) = false := decide_eq_false (by omega)
  subst hk
  have KM : Hid (∀ wx : World, Calls Try.prog 40 #[.slice av nv cv, .int .i64 (hh : Int)] wx fun e w' => e = .returned (.bool false) ∧ w' = wx) := fun wx => by
    subst hnv
    rw [← hm]
    exact mayhave_any v hh av cv wx
  have h1 : 0 < nv := by rw [hnv]; exact List.length_pos_iff.2 h0
  have dn : decide ((0 : Int) < (nv : Int)) = true := decide_eq_true (by omega)
  have dn' : decide (0 < nv) = true := decide_eq_true h1
  clear hnv h1
  go_enter Try.func42, Try.ntmps42
  go_wp2_with fail
  refine (KM.out _).mono ?_
  rintro e w1 ⟨rfl, rfl⟩
  go_wp2_with fail
  go_ret2
  exact ⟨rfl, HB.out⟩
end Tr
end Go.Proofs.Ytdcbgldelfhohaa
/- tree.read at every node: just the trees are read. -/
namespace Go.Proofs.Ytdcbgldelfhohaa
namespace Tr
open Nb Go.RowKit
def RP (lo h : Nat) (t : Nd) (w : World) (e : Ending) (w' : World) : Prop := ∃ x, e = .returned (.tuple #[x, .bool (rd h t)]) ∧ (rd h t = true → In lo w' t x (fun y => w.heap.size ≤ y)) ∧ Below w.heap.size w w'
def FP (lo h : Nat) (t : Nd) (w : World) (e : Ending) (w' : World) : Prop := ∃ x, e = .returned (.tuple #[.pointer x, .bool (rd h t)]) ∧ (rd h t = true → ∃ g, x = some ⟨g, 0, none⟩ ∧ In lo w' t (.iface 73 (.pointer (some ⟨g, 0, none⟩))) (fun y => w.heap.size ≤ y)) ∧ Below w.heap.size w w'
theorem rda_range (ks : List Nd) (h : Nat) (hl : ks.length = 16) : rda h ks = (List.range 16).all (fun j => rd h (ks.getD j Nd.no)) := by
  rw [Bool.eq_iff_iff, rda_iff, List.all_eq_true, hl]
  constructor
  · intro hh j hj; exact hh j (List.mem_range.1 hj)
  · intro hh j hj; exact hh j (List.mem_range.2 hj)
theorem rd_three (h : Nat) (p v : By) (ks : List Nd) : rd h (.mk 3 p v ks) = (decide (h ≤ 64) && decide (ks.length = 16) && (decide (v = []) || may v h) && rda (h + 1) ks && decide (2 ≤ pts v ks)) := by
  rw [rd, if_neg (by decide), if_neg (by decide), if_neg (by decide), if_pos rfl]
theorem rd_two (h : Nat) (p v : By) (ks : List Nd) : rd h (.mk 2 p v ks) = (decide (p ≠ []) && ptb p && decide (ks.length = 1) && rd1 (h + p.length) ks) := by
  rw [rd, if_neg (by decide), if_neg (by decide), if_pos rfl]
theorem rd_one (h : Nat) (p v : By) (ks : List Nd) : rd h (.mk 1 p v ks) = (ptb p && may v (h + p.length)) := by
  rw [rd, if_neg (by decide), if_pos rfl]
theorem rd_zero (h : Nat) (p v : By) (ks : List Nd) : rd h (.mk 0 p v ks) = true := by
  rw [rd, if_pos rfl]
theorem rd_else (h : Nat) (k : Int) (p v : By) (ks : List Nd) (h0 : k ≠ 0) (h1 : k ≠ 1) (h2 : k ≠ 2) (h3 : k ≠ 3) : rd h (.mk k p v ks) = false := by
  rw [rd, if_neg h0, if_neg h1, if_neg h2, if_neg h3]
theorem fp_bad {lo h : Nat} {t : Nd} {w : World} (hr : rd h t = false) {f : FuncId} {a : Array Value} (hc : Calls Try.prog f a w fun e w' => e = .returned (.tuple #[.pointer none, .bool false]) ∧ Below w.heap.size w w') : Calls Try.prog f a w (FP lo h t w) :=
  hc.mono fun e w' he => ⟨none, by rw [hr]; exact he.1, fun hh => absurd (hr.symm.trans hh) (by decide), he.2⟩
theorem rp_bad {lo h : Nat} {t : Nd} {w : World} (hr : rd h t = false) {f : FuncId} {a : Array Value} (hc : Calls Try.prog f a w fun e w' => (∃ x, e = .returned (.tuple #[x, .bool false])) ∧ Below w.heap.size w w') : Calls Try.prog f a w (RP lo h t w) :=
  hc.mono fun e w' ⟨⟨x, h1⟩, h2⟩ => ⟨x, by rw [hr]; exact h1, fun hh => absurd (hr.symm.trans hh) (by decide), h2⟩
theorem wn_kid {k : Int} {p v : By} {ks : List Nd} {j N : Nat} (h : wn (.mk k p v ks) ≤ N) (hj : j < ks.length) : wn (ks.getD j Nd.no) ≤ N := by
  have := wnk_one ks j hj
  unfold wn at h
  omega
/-- readFork, over its kids. -/
theorem rfork_all (lo h : Nat) (p v : By) (ks : List Nd) (u : V4) (w : World) (hu : Nv (· < lo) w (.mk 3 p v ks) u) (hlo : lo ≤ w.heap.size)
    (KR : ∀ j, j < ks.length → h ≤ 64 → ∀ (x : V4) (wx : World), Nv (· < lo) wx (ks.getD j Nd.no) x → lo ≤ wx.heap.size → Calls Try.prog 22 #[v4 x, .int .i64 ((h + 1 : Nat) : Int)] wx (RP lo (h + 1) (ks.getD j Nd.no) wx)) :
    Calls Try.prog 42 #[v4 u, .int .i64 (h : Int)] w (FP lo h (.mk 3 p v ks) w) := by
  cases hu with
  | mk _ _ _ _ pv vv kv vs hp hv hl hk hi =>
    have hv' := hv
    obtain ⟨a1, c1, rfl, -, -⟩ := hp
    obtain ⟨a2, c2, rfl, -, -⟩ := hv
    obtain ⟨a3, c3, rfl, -, hq⟩ := hk
    show Calls Try.prog _ #[.agg #[.int .i64 3, _, _, _], _] w _
    by_cases h64 : h ≤ 64
    case neg =>
      exact fp_bad (by rw [rd_three, decide_eq_false h64]; simp) (rfork_deep a1 a2 a3 _ c1 _ c2 _ c3 h w (by omega))
    by_cases h16 : ks.length = 16
    case neg =>
      exact fp_bad (by rw [rd_three, decide_eq_false h16]; simp) (rfork_kids a1 a2 a3 _ c1 _ c2 _ c3 h w h64 (by omega))
    by_cases hmv : v = [] ∨ may v h = true
    case neg =>
      have h1 : v ≠ [] := fun e => hmv (.inl e)
      have h2 : may v h = false := by cases e : may v h with | false => rfl | true => exact absurd (.inr e) hmv
      exact fp_bad (by rw [rd_three, decide_eq_false h1, h2]; simp) (rfork_value a1 a2 a3 _ c1 _ c2 _ c3 h w h64 (by omega) v rfl h1 h2)
    obtain ⟨gk, off, rfl, hgl, hgk, hc⟩ := hq (by omega)
    have er : rd h (.mk 3 p v ks) = ((List.range 16).all (fun j => rd (h + 1) (ks.getD j Nd.no)) && decide (2 ≤ pts v ks)) := by
      rw [rd_three, decide_eq_true h64, decide_eq_true h16, ← rda_range ks _ h16]
      have : (decide (v = []) || may v h) = true := by
        rcases hmv with e | e
        · rw [decide_eq_true e]; rfl
        · rw [e]; simp
      rw [this]
      simp
    have el : vs.length = 16 := by omega
    rw [el]
    refine (rfork_ok a1 a2 _ c1 _ c2 c3 h gk off w lo hlo ks vs p v h16 h64 rfl hmv hv' hgk (fun j hj => hc j (by omega)) (fun j => rd (h + 1) (ks.getD j Nd.no)) (fun j hj => Nv_form (hi j (by omega))) ?_).mono fun e w' he => ?_
    · intro j hj wx hb
      refine (KR j (by omega) h64 _ wx (Nv_below (hi j (by omega)) hb) (Nat.le_trans hlo hb.size)).mono fun e w' he => ?_
      exact he
    · unfold FP
      rw [er]
      exact he
theorem read_all (lo : Nat) {t : Nd} (ht : Wf t) :
    (∀ (h : Nat) (u : V4) (w : World), h ≤ 65 → Nv (· < lo) w t u → lo ≤ w.heap.size → wn t ≤ 4194304 → Calls Try.prog 22 #[v4 u, .int .i64 (h : Int)] w (RP lo h t w)) ∧
    (t.kind = 3 → ∀ (h : Nat) (u : V4) (w : World), Nv (· < lo) w t u → lo ≤ w.heap.size → wn t ≤ 4194304 → Calls Try.prog 42 #[v4 u, .int .i64 (h : Int)] w (FP lo h t w)) := by
  induction ht with
  | mk k p v ks _ ih =>
    have HF : k = 3 → ∀ (h : Nat) (u : V4) (w : World), Nv (· < lo) w (.mk k p v ks) u → lo ≤ w.heap.size → wn (.mk k p v ks) ≤ 4194304 → Calls Try.prog 42 #[v4 u, .int .i64 (h : Int)] w (FP lo h (.mk k p v ks) w) := by
      intro hk h u w hu hlo hw
      subst hk
      exact rfork_all lo h p v ks u w hu hlo (fun j hj h64 x wx hx hl => (ih j hj).1 (h + 1) x wx (by omega) hx hl (wn_kid hw hj))
    refine ⟨fun h u w h65 hu hlo hw => ?_, HF⟩
    have hu' := hu
    cases hu with
    | mk _ _ _ _ pv vv kv vs hp hv hl hk hi =>
      have hp' := hp
      have hv' := hv
      have sp := Bs_sl hp
      obtain ⟨a1, c1, rfl, -, -⟩ := hp
      obtain ⟨a2, c2, rfl, -, -⟩ := hv
      obtain ⟨a3, c3, rfl, -, hq⟩ := hk
      have hz : p.length ≤ 4194304 := by unfold wn at hw; omega
      obtain ⟨ax, cx, ex, -, vw⟩ := sp
      injection ex with e1 e2 e3
      subst e1
      by_cases k0 : k = 0
      · subst k0
        refine (read_none a1 a2 a3 _ c1 _ c2 _ c3 h w).mono fun e w' he => ⟨_, by rw [rd_zero]; exact he.1, fun _ => .none p v ks _, he.2⟩
      by_cases k1 : k = 1
      · subst k1
        cases hpt : ptb p with
        | true =>
          refine (read_leaf_ok a1 a2 a3 _ c1 _ c2 _ c3 h w p v rfl hz rfl (by omega) vw hpt).mono fun e w' he => ⟨_, by rw [rd_one, hpt, Bool.true_and]; exact he.1, fun _ => ?_, he.2⟩
          exact .leaf p v ks _ _ _ (Bs_lo (Bs_below hp' he.2)) (Bs_lo (Bs_below hv' he.2))
        | false => exact rp_bad (by rw [rd_one, hpt]; rfl) ((read_leaf_no a1 a2 a3 _ c1 _ c2 _ c3 h w p v rfl hz rfl (by omega) vw hpt).mono fun e w' he => ⟨⟨_, he.1⟩, he.2⟩)
      by_cases k2 : k = 2
      · subst k2
        show Calls Try.prog _ #[.agg #[.int .i64 2, _, _, _], _] w _
        refine read_road a1 a2 a3 _ c1 _ c2 _ c3 h w (rd h (.mk 2 p v ks)) (fun x w' => rd h (.mk 2 p v ks) = true → In lo w' (.mk 2 p v ks) x (fun y => w.heap.size ≤ y)) ?_
        intro wx hbx
        have vwx := Sp.Vw_below vw hbx
        have key : Calls Try.prog 41 #[.agg #[.int .i64 2, .slice a1 p.length c1, .slice a2 v.length c2, .slice a3 vs.length c3], .int .i64 (h : Int)] wx (RP lo h (.mk 2 p v ks) wx) := by
          by_cases p0 : p = []
          · subst p0
            exact rp_bad (by rw [rd_two]; simp) (rroad_empty a1 a2 a3 c1 _ c2 _ c3 h wx)
          have hp0 : 0 < p.length := List.length_pos_iff.2 p0
          cases hpt : ptb p with
          | false => exact rp_bad (by rw [rd_two, hpt]; simp) (rroad_path a1 a2 a3 _ c1 _ c2 _ c3 h wx p rfl hz hp0 vwx hpt)
          | true =>
            by_cases hk1 : ks.length = 1
            case neg => exact rp_bad (by rw [rd_two, decide_eq_false hk1]; simp) (rroad_kids a1 a2 a3 _ c1 _ c2 _ c3 h wx p rfl hz hp0 vwx hpt (by omega))
            obtain ⟨t, rfl⟩ := List.length_eq_one_iff.1 hk1
            have el : vs.length = 1 := hl
            obtain ⟨gk, off, rfl, hgl, hgk, hc⟩ := hq (by omega)
            obtain ⟨y0, y1, y2, y3⟩ := hc 0 (by omega)
            have hn := hi 0 (by simp)
            rw [List.getD_cons_zero] at hn
            obtain ⟨kk, b1, m1, d1, b2, m2, d2, b3, m3, d3, eF⟩ := Nv_form hn
            rw [eF] at y0 y1 y2 y3
            simp only [Nat.mul_zero, Nat.add_zero] at y0 y1 y2 y3
            have z0 := (hbx.cell (p := ⟨gk, off, none⟩) hgk).trans y0
            have z1 := (hbx.cell (p := ⟨gk, off + 1, none⟩) hgk).trans y1
            have z2 := (hbx.cell (p := ⟨gk, off + 2, none⟩) hgk).trans y2
            have z3 := (hbx.cell (p := ⟨gk, off + 3, none⟩) hgk).trans y3
            have hgx : gk < wx.heap.size := Nat.lt_of_lt_of_le hgk hbx.size
            have ekk : t.kind = kk := by
              rw [eF] at hn
              cases hn
              rfl
            rw [el]
            by_cases hkk : kk = 3
            case neg => exact rp_bad (by rw [rd_two, rd1, decide_eq_false (show ¬ t.kind = 3 by rw [ekk]; exact hkk)]; simp) (rroad_kind a1 a2 _ c1 _ c2 c3 h gk off wx p rfl hz hp0 vwx hpt kk hgx z0 hkk)
            subst hkk
            have er : rd h (.mk 2 p v [t]) = rd (h + p.length) t := by
              rw [rd_two, rd1, hpt, decide_eq_true (show p ≠ [] from p0), decide_eq_true ekk]
              simp
            have GBt : ∀ (x : Option Addr) (w1 w2 : World), (rd (h + p.length) t = true → ∃ g, x = some ⟨g, 0, none⟩ ∧ In lo w1 t (.iface 73 (.pointer (some ⟨g, 0, none⟩))) (fun y => wx.heap.size ≤ y)) → Below w1.heap.size w1 w2 → rd (h + p.length) t = true → ∃ g, x = some ⟨g, 0, none⟩ ∧ In lo w2 t (.iface 73 (.pointer (some ⟨g, 0, none⟩))) (fun y => wx.heap.size ≤ y) := fun x w1 w2 hx hb hr => by
              obtain ⟨g, h1, h2⟩ := hx hr
              exact ⟨g, h1, In_below h2 hb⟩
            have KF := (ih 0 (by simp)).2
            rw [List.getD_cons_zero] at KF
            refine (rroad_fork a1 a2 _ c1 _ c2 c3 h gk off wx p rfl hz hp0 vwx hpt (by omega) b1 b2 b3 m1 d1 m2 d2 m3 d3 hgx z0 z1 z2 z3 (rd (h + p.length) t) _ GBt ?_).mono fun e w' he => ?_
            · intro wy hby
              have hn2 : Nv (· < lo) wy t (.int .i64 3, .slice b1 m1 d1, .slice b2 m2 d2, .slice b3 m3 d3) := by
                rw [eF] at hn
                exact Nv_below (Nv_below hn hbx) hby
              refine (KF ekk (h + p.length) _ wy hn2 (Nat.le_trans hlo (Nat.le_trans hbx.size hby.size)) (by have := wn_kid (j := 0) hw (by simp); rwa [List.getD_cons_zero] at this)).mono fun e w' he => ?_
              obtain ⟨x, h1, h2, h3⟩ := he
              refine ⟨x, h1, fun hr => ?_, h3⟩
              obtain ⟨g, h4, h5⟩ := h2 hr
              exact ⟨g, h4, In_mono h5 (fun y hy => Nat.le_trans hby.size hy)⟩
            · obtain ⟨x, h1, h2, h3⟩ := he
              refine ⟨_, by rw [er]; exact h1, fun hr => ?_, h3⟩
              rw [er] at hr
              obtain ⟨g, rfl, h5⟩ := h2 hr
              exact .road p v t _ g _ (Bs_lo (Bs_below (Bs_below hp' hbx) h3)) h5
        refine key.mono fun e w' he => ?_
        obtain ⟨x, h1, h2, h3⟩ := he
        exact ⟨x, h1, fun hr => In_mono (h2 hr) (fun y hy => Nat.le_trans hbx.size hy), h3⟩
      by_cases k3 : k = 3
      · subst k3
        show Calls Try.prog _ #[.agg #[.int .i64 3, _, _, _], _] w _
        refine (read_fork a1 a2 a3 _ c1 _ c2 _ c3 h w (rd h (.mk 3 p v ks)) (fun x w' => rd h (.mk 3 p v ks) = true → ∃ g, x = some ⟨g, 0, none⟩ ∧ In lo w' (.mk 3 p v ks) (.iface 73 (.pointer (some ⟨g, 0, none⟩))) (fun y => w.heap.size ≤ y)) ?_).mono fun e w' he => ?_
        · intro wx hbx
          refine (HF rfl h _ wx (Nv_below hu' hbx) (Nat.le_trans hlo hbx.size) hw).mono fun e w' he => ?_
          obtain ⟨x, h1, h2, h3⟩ := he
          refine ⟨x, h1, fun hr => ?_, h3⟩
          obtain ⟨g, h4, h5⟩ := h2 hr
          exact ⟨g, h4, In_mono h5 (fun y hy => Nat.le_trans hbx.size hy)⟩
        · obtain ⟨x, h1, h2, h3⟩ := he
          refine ⟨_, h1, fun hr => ?_, h3⟩
          obtain ⟨g, rfl, h5⟩ := h2 hr
          exact h5
      · exact rp_bad (rd_else h k p v ks k0 k1 k2 k3) ((read_other k a1 a2 a3 _ c1 _ c2 _ c3 h w k0 k1 k2 k3).mono fun e w' he => ⟨⟨_, he.1⟩, he.2⟩)
end Tr
end Go.Proofs.Ytdcbgldelfhohaa
/- lampbearerref.GRight, over what grown does. -/
namespace Go.Proofs.Ytdcbgldelfhohaa
namespace RI
theorem wpOp_skip {P : Program} {ops : Array Oper} {Q : Exit → Act → World → Prop} {i : Nat} {o : Oper} {K : Act → World → Prop} {a : Act} {w : World} (ho : ops[i]? = some o) (hw : Region.wanted o (yielded ops a.tmps) = false) (h : K (a.put o.dst undef) w) : wpOp P ops Q i K a w := by
  unfold wpOp
  rw [ho]
  simp only [hw]
  exact h
end RI
namespace Tr
open Nb Go.RowKit
/-- What grows of routes. -/
def grw (l : Rt) : Nd := grow 65 l
/-- What grown does. -/
def GrownOk : Prop := ∀ (l : Rt) (v : Value) (w : World), Rv l v w → l.length ≤ 1048576 → (∀ r ∈ l, r.1.length < 65) → Srt l → Pts l → Calls Try.prog 24 #[v] w fun e w' => ∃ u : V4, e = .returned (v4 u) ∧ Nv (w.heap.size ≤ ·) w' (grw l) u ∧ Below w.heap.size w w'
def okb (r : By × By) : Bool := decide (r.1.length % 2 = 0) && decide (r.1.length ≤ 64) && decide (r.2 ≠ []) && decide (r.2.length ≤ 1024)
theorem okb_iff (r : By × By) : okb r = true ↔ Okr r.1 r.2 := by
  unfold okb Okr
  simp only [Bool.and_eq_true, decide_eq_true_eq, and_assoc]
/-- The four tests. -/
theorem ok_ways (p v : By) (h : okb (p, v) = true) : (p.length : Int).tmod 2 = 0 ∧ p.length ≤ 64 ∧ 0 < v.length ∧ v.length ≤ 1024 := by
  have k := (okb_iff (p, v)).1 h
  obtain ⟨k1, k2, k3, k4⟩ := k
  have k5 : 0 < v.length := List.length_pos_iff.2 k3
  dsimp only at k1 k2 k4
  refine ⟨?_, k2, k5, k4⟩
  rw [Int.tmod_eq_emod_of_nonneg (by omega)]
  omega
theorem bad_ways (p v : By) (h : okb (p, v) = false) : (p.length : Int).tmod 2 = 1 ∨ ((p.length : Int).tmod 2 = 0 ∧ 64 < p.length) ∨ ((p.length : Int).tmod 2 = 0 ∧ p.length ≤ 64 ∧ v.length = 0) ∨ ((p.length : Int).tmod 2 = 0 ∧ p.length ≤ 64 ∧ 0 < v.length ∧ 1024 < v.length) := by
  rw [Int.tmod_eq_emod_of_nonneg (by omega)]
  by_cases t1 : p.length % 2 = 1
  · exact .inl (by omega)
  by_cases t2 : 64 < p.length
  · exact .inr (.inl ⟨by omega, t2⟩)
  by_cases t3 : v.length = 0
  · exact .inr (.inr (.inl ⟨by omega, by omega, t3⟩))
  by_cases t4 : 1024 < v.length
  · exact .inr (.inr (.inr ⟨by omega, by omega, by omega, t4⟩))
  · exfalso
    have : okb (p, v) = true := (okb_iff (p, v)).2 ⟨by show p.length % 2 = 0; omega, by show p.length ≤ 64; omega, fun e => t3 (by have e : v = [] := e; rw [e]; rfl), by show v.length ≤ 1024; omega⟩
    rw [this] at h
    cases h
/-- What GRight answers. -/
def gr (t : Nd) : Bool := match rt t with
  | none => false
  | some l => l.all okb && sn t (grw l)
theorem gr_right (t : Nd) : gr t = true ↔ Right t := by
  rw [right_iff]
  unfold gr
  cases h : rt t with
  | none => simp
  | some l =>
    simp only [Bool.and_eq_true, List.all_eq_true, Option.some.injEq, exists_eq_left', okb_iff, sn_bn, grw]
inductive GRF (W0 : World) (k : Int) (a1 a2 a3 : Option Addr) (n1 c1 n2 c2 n3 c3 : Nat) (la : Option Addr) (n lc g0 j : Nat) (v6 v16 v17 v18 v19 v20 v21 v22 v23 v24 v25 v26 v27 v28 v29 v30 v31 v32 v33 v34 v35 v36 v37 v38 v39 v40 v41 : Value) (d : Nat → Bool) (x : Act) (wx : World) : Prop where
  | mk (u2 u42 u43 u44 u45 u46 u47 u48 : Value) (hx : x = { tmps := #[.agg #[.int .i64 k, .slice a1 n1 c1, .slice a2 n2 c2, .slice a3 n3 c3], .pointer (some ⟨g0, 0, none⟩), u2, .slice la n lc, .bool false, undef, v6, .tuple #[.slice la n lc, .bool false], .agg #[.int .i64 k, .slice a1 n1 c1, .slice a2 n2 c2, .slice a3 n3 c3], .tuple #[.slice la n lc, .bool false], .slice la n lc, .bool false, .slice la n lc, .int .i64 (n : Int), .int .i64 (j : Int), .bool false, v16, v17, v18, v19, v20, v21, v22, v23, v24, v25, v26, v27, v28, v29, v30, v31, v32, v33, v34, v35, v36, v37, v38, v39, v40, v41, u42, u43, u44, u45, u46, u47, u48], defers := [] }) (hw : Below W0.heap.size W0 wx) (p0 : d 0 = true → u42 = .bool false) (p1 : d 1 = true → u43 = .bool false) (p2 : d 2 = true → u44 = undef) (p3 : d 3 = true → u45 = undef) (p4 : d 4 = true → u46 = undef) (p5 : d 5 = true → u47 = undef) (p6 : d 6 = true → u48 = .bool false) (p7 : d 7 = true → u2 = .bool false) : GRF W0 k a1 a2 a3 n1 c1 n2 c2 n3 c3 la n lc g0 j v6 v16 v17 v18 v19 v20 v21 v22 v23 v24 v25 v26 v27 v28 v29 v30 v31 v32 v33 v34 v35 v36 v37 v38 v39 v40 v41 d x wx
set_option maxHeartbeats 2000000 in
set_option maxRecDepth 100000 in
theorem gr_false (k : Int) (a1 a2 a3 : Option Addr) (n1 c1 n2 c2 n3 c3 : Nat) (w : World) (KR : Hid (∀ wx : World, Below w.heap.size w wx → Calls Try.prog 23 #[.agg #[.int .i64 k, .slice a1 n1 c1, .slice a2 n2 c2, .slice a3 n3 c3], .string ⟨#[]⟩] wx fun e w' => ∃ la n lc, e = .returned (.tuple #[.slice la n lc, .bool false]) ∧ n = 0 ∧ Below wx.heap.size wx w')) :
    Calls Try.prog 10 #[.agg #[.int .i64 k, .slice a1 n1 c1, .slice a2 n2 c2, .slice a3 n3 c3]] w fun e w' => e = .returned (.bool false) ∧ Below w.heap.size w w' := by
  have B0 : Below w.heap.size w (w.alloc (.cells #[.int .i64 k, .slice a1 n1 c1, .slice a2 n2 c2, .slice a3 n3 c3] 25)) := (Below.refl _ _).alloc (Nat.le_refl _) _
  have HA := heap_alloc_new w (.cells #[.int .i64 k, .slice a1 n1 c1, .slice a2 n2 c2, .slice a3 n3 c3] 25)
  have q0' : (w.alloc (.cells #[.int .i64 k, .slice a1 n1 c1, .slice a2 n2 c2, .slice a3 n3 c3] 25)).cell? ⟨w.heap.size, 0, none⟩ = some (.int .i64 k) := by simp only [World.cell?, HA]; rfl
  have q1' : (w.alloc (.cells #[.int .i64 k, .slice a1 n1 c1, .slice a2 n2 c2, .slice a3 n3 c3] 25)).cell? ⟨w.heap.size, 1, none⟩ = some (.slice a1 n1 c1) := by simp only [World.cell?, HA]; rfl
  have q2' : (w.alloc (.cells #[.int .i64 k, .slice a1 n1 c1, .slice a2 n2 c2, .slice a3 n3 c3] 25)).cell? ⟨w.heap.size, 2, none⟩ = some (.slice a2 n2 c2) := by simp only [World.cell?, HA]; rfl
  have q3' : (w.alloc (.cells #[.int .i64 k, .slice a1 n1 c1, .slice a2 n2 c2, .slice a3 n3 c3] 25)).cell? ⟨w.heap.size, 3, none⟩ = some (.slice a3 n3 c3) := by simp only [World.cell?, HA]; rfl
  have hh' : w.heap.size < (w.alloc (.cells #[.int .i64 k, .slice a1 n1 c1, .slice a2 n2 c2, .slice a3 n3 c3] 25)).heap.size := by simp
  have BW : Hid (Below w.heap.size w (w.alloc (.cells #[.int .i64 k, .slice a1 n1 c1, .slice a2 n2 c2, .slice a3 n3 c3] 25))) := B0
  clear HA
  go_enter Try.func10, Try.ntmps10
  go_wp2_with fail
  generalize w.alloc (.cells #[.int .i64 k, .slice a1 n1 c1, .slice a2 n2 c2, .slice a3 n3 c3] 25) = W1 at *
  generalize hg0 : w.heap.size = g0 at *
  refine (KR.out W1 (hg0 ▸ B0)).mono (fun e W0 he => ?_)
  obtain ⟨la, n, lc, rfl, hx0, bR⟩ := he
  have hx : Hid _ := hx0
  clear hx0
  have q0 := (bR.cell (p := ⟨g0, 0, none⟩) hh').trans q0'
  have q1 := (bR.cell (p := ⟨g0, 1, none⟩) hh').trans q1'
  have q2 := (bR.cell (p := ⟨g0, 2, none⟩) hh').trans q2'
  have q3 := (bR.cell (p := ⟨g0, 3, none⟩) hh').trans q3'
  have hh : g0 < W0.heap.size := Nat.lt_of_lt_of_le hh' bR.size
  have BW0 : Hid (Below w.heap.size w W0) := by
    show Below _ _ _
    rw [hg0]
    exact BW.out.trans (bR.mono (by have := BW.out.size; omega))
  clear q0' q1' q2' q3' hh' bR BW B0 KR
  go_wp2_with fail
  go_loopw [14] (fun i wr => ∃ j : Nat, j ≤ n ∧ i = .int .i64 (j : Int) ∧ Below W0.heap.size W0 wr) (fun i _ => ((n : Int) - intOf i).toNat)
  case atStart => exact ⟨0, Nat.zero_le _, rfl, Below.refl _ _⟩
  case round =>
    obtain ⟨j, hj, rfl, hB⟩ := hrel
    have hlt : ¬ j < n := by have := hx.out; omega
    have d0 : decide ((j : Int) < (n : Int)) = false := decide_eq_false (by omega)
    have BF : Hid (Below w.heap.size w wr) := BW0.out.trans (hB.mono BW0.out.size)
    go_upto_region 8 with fail
    have hw0 : Below wr.heap.size wr wr.drew := (Below.refl _ _).drew
    refine RI.wp_region_inv (GRF wr k a1 a2 a3 n1 c1 n2 c2 n3 c3 la n lc g0 j u6 u16 u17 u18 u19 u20 u21 u22 u23 u24 u25 u26 u27 u28 u29 u30 u31 u32 u33 u34 u35 u36 u37 u38 u39 u40 u41) (by kernel_rfl) (by kernel_rfl) ?_ ?_ ?_
    · exact ⟨_, undef, undef, undef, undef, undef, undef, undef, rfl, hw0, nofun, nofun, nofun, nofun, nofun, nofun, nofun, nofun⟩
    · skip
      intro d x wx i hI hi hm
      obtain ⟨u2, u42, u43, u44, u45, u46, u47, u48, rfl, hw, p0, p1, p2, p3, p4, p5, p6, p7⟩ := hI
      have hi' : i = 0 ∨ i = 1 ∨ i = 2 ∨ i = 3 ∨ i = 4 ∨ i = 5 ∨ i = 6 ∨ i = 7 := by simp at hi; omega
      have hd := hm.2
      clear hm hi
      rcases hi' with rfl | rfl | rfl | rfl | rfl | rfl | rfl | rfl
      · refine RI.wpOp_plain rfl rfl ?_
        go_simp
        exact ⟨u2, _, u43, u44, u45, u46, u47, u48, rfl, hw, fun _ => rfl, p1, p2, p3, p4, p5, p6, p7⟩
      · have hd := hd _ rfl
        simp [Region.binds] at hd
        obtain rfl := p0 (by simp [hd])
        refine RI.wpOp_plain rfl rfl ?_
        go_simp
        exact ⟨u2, _, _, u44, u45, u46, u47, u48, rfl, hw, p0, fun _ => rfl, p2, p3, p4, p5, p6, p7⟩
      · have hd := hd _ rfl
        simp [Region.binds] at hd
        obtain rfl := p1 (by simp [hd])
        refine RI.wpOp_skip rfl rfl ?_
        simp only [Act.put]
        exact ⟨u2, u42, _, _, u45, u46, u47, u48, rfl, hw, p0, p1, fun _ => rfl, p3, p4, p5, p6, p7⟩
      · have hd := hd _ rfl
        simp [Region.binds] at hd
        obtain rfl := p1 (by simp [hd])
        refine RI.wpOp_skip rfl rfl ?_
        simp only [Act.put]
        exact ⟨u2, u42, _, u44, _, u46, u47, u48, rfl, hw, p0, p1, p2, fun _ => rfl, p4, p5, p6, p7⟩
      · have hd := hd _ rfl
        simp [Region.binds] at hd
        obtain rfl := p1 (by simp [hd])
        obtain rfl := p3 (by simp [hd])
        refine RI.wpOp_skip rfl rfl ?_
        simp only [Act.put]
        exact ⟨u2, u42, _, u44, _, _, u47, u48, rfl, hw, p0, p1, p2, p3, fun _ => rfl, p5, p6, p7⟩
      · have hd := hd _ rfl
        simp [Region.binds] at hd
        obtain rfl := p1 (by simp [hd])
        obtain rfl := p2 (by simp [hd])
        obtain rfl := p4 (by simp [hd])
        refine RI.wpOp_skip rfl rfl ?_
        simp only [Act.put]
        exact ⟨u2, u42, _, _, u45, _, _, u48, rfl, hw, p0, p1, p2, p3, p4, fun _ => rfl, p6, p7⟩
      · have hd := hd _ rfl
        simp [Region.binds] at hd
        obtain rfl := p1 (by simp [hd])
        obtain rfl := p5 (by simp [hd])
        refine RI.wpOp_plain rfl rfl ?_
        go_simp
        exact ⟨u2, u42, _, u44, u45, u46, _, _, rfl, hw, p0, p1, p2, p3, p4, p5, fun _ => rfl, p7⟩
      · have hd := hd _ rfl
        simp [Region.binds] at hd
        obtain rfl := p0 (by simp [hd])
        obtain rfl := p1 (by simp [hd])
        obtain rfl := p2 (by simp [hd])
        obtain rfl := p3 (by simp [hd])
        obtain rfl := p4 (by simp [hd])
        obtain rfl := p5 (by simp [hd])
        obtain rfl := p6 (by simp [hd])
        refine RI.wpOp_plain rfl rfl ?_
        go_simp
        exact ⟨_, _, _, _, _, _, _, _, rfl, hw, p0, p1, p2, p3, p4, p5, p6, fun _ => rfl⟩
    · skip
      intro d x wx hI hd
      obtain ⟨u2, u42, u43, u44, u45, u46, u47, u48, rfl, hw, p0, p1, p2, p3, p4, p5, p6, p7⟩ := hI
      obtain rfl := p7 (hd 7 (by decide))
      clear p0 p1 p2 p3 p4 p5 p6
      have HB : Hid (Below w.heap.size w wx) := BF.out.trans (hw.mono BF.out.size)
      clear hw
      go_wp2_with fail
      go_ret
      exact ⟨rfl, by first | exact HB.out | (rw [← hg0]; exact HB.out)⟩
inductive GRT (W0 : World) (k : Int) (a1 a2 a3 : Option Addr) (n1 c1 n2 c2 n3 c3 : Nat) (la : Option Addr) (n lc g0 j : Nat) (T : Nd) (R : Bool) (v6 v16 v17 v18 v19 v20 v21 v22 v23 v24 v25 v26 v27 v28 v29 v30 v31 v32 v33 v34 v35 v36 v37 v38 v39 v40 v41 : Value) (d : Nat → Bool) (x : Act) (wx : World) : Prop where
  | mk (u2 u42 u43 u44 u45 u46 u47 u48 : Value) (hx : x = { tmps := #[.agg #[.int .i64 k, .slice a1 n1 c1, .slice a2 n2 c2, .slice a3 n3 c3], .pointer (some ⟨g0, 0, none⟩), u2, .slice la n lc, .bool true, undef, v6, .tuple #[.slice la n lc, .bool true], .agg #[.int .i64 k, .slice a1 n1 c1, .slice a2 n2 c2, .slice a3 n3 c3], .tuple #[.slice la n lc, .bool true], .slice la n lc, .bool true, .slice la n lc, .int .i64 (n : Int), .int .i64 (j : Int), .bool false, v16, v17, v18, v19, v20, v21, v22, v23, v24, v25, v26, v27, v28, v29, v30, v31, v32, v33, v34, v35, v36, v37, v38, v39, v40, v41, u42, u43, u44, u45, u46, u47, u48], defers := [] }) (hw : Below W0.heap.size W0 wx) (p0 : d 0 = true → u42 = .bool true) (p1 : d 1 = true → u43 = .bool true) (p2 : d 2 = true → u44 = .agg #[.int .i64 k, .slice a1 n1 c1, .slice a2 n2 c2, .slice a3 n3 c3]) (p3 : d 3 = true → u45 = .slice la n lc) (p5 : d 5 = true → u47 = .bool R) (p6 : d 6 = true → u48 = .bool R) (p7 : d 7 = true → u2 = .bool R) (z4 : d 4 = true → ∃ y : V4, u46 = v4 y ∧ Nv (fun _ => True) wx T y) : GRT W0 k a1 a2 a3 n1 c1 n2 c2 n3 c3 la n lc g0 j T R v6 v16 v17 v18 v19 v20 v21 v22 v23 v24 v25 v26 v27 v28 v29 v30 v31 v32 v33 v34 v35 v36 v37 v38 v39 v40 v41 d x wx
set_option maxHeartbeats 2000000 in
set_option maxRecDepth 100000 in
theorem gr_bad (k : Int) (a1 a2 a3 : Option Addr) (n1 c1 m2 c2 n3 c3 : Nat) (w : World) (l : Rt) (hlen : l.length ≤ 1048576) (KR : Hid (∀ wx : World, Below w.heap.size w wx → Calls Try.prog 23 #[.agg #[.int .i64 k, .slice a1 n1 c1, .slice a2 m2 c2, .slice a3 n3 c3], .string ⟨#[]⟩] wx fun e w' => ∃ la n lc, e = .returned (.tuple #[.slice la n lc, .bool true]) ∧ (n = l.length ∧ Rv l (.slice la n lc) w') ∧ Below wx.heap.size wx w')) (i0 : Nat) (hi0 : i0 < l.length) (HB0 : Hid (∀ j, j < i0 → okb (l.getD j n2) = true)) (HB1 : Hid (okb (l.getD i0 n2) = false)) :
    Calls Try.prog 10 #[.agg #[.int .i64 k, .slice a1 n1 c1, .slice a2 m2 c2, .slice a3 n3 c3]] w fun e w' => e = .returned (.bool false) ∧ Below w.heap.size w w' := by
  have B0 : Below w.heap.size w (w.alloc (.cells #[.int .i64 k, .slice a1 n1 c1, .slice a2 m2 c2, .slice a3 n3 c3] 25)) := (Below.refl _ _).alloc (Nat.le_refl _) _
  have HA := heap_alloc_new w (.cells #[.int .i64 k, .slice a1 n1 c1, .slice a2 m2 c2, .slice a3 n3 c3] 25)
  have q0' : (w.alloc (.cells #[.int .i64 k, .slice a1 n1 c1, .slice a2 m2 c2, .slice a3 n3 c3] 25)).cell? ⟨w.heap.size, 0, none⟩ = some (.int .i64 k) := by simp only [World.cell?, HA]; rfl
  have q1' : (w.alloc (.cells #[.int .i64 k, .slice a1 n1 c1, .slice a2 m2 c2, .slice a3 n3 c3] 25)).cell? ⟨w.heap.size, 1, none⟩ = some (.slice a1 n1 c1) := by simp only [World.cell?, HA]; rfl
  have q2' : (w.alloc (.cells #[.int .i64 k, .slice a1 n1 c1, .slice a2 m2 c2, .slice a3 n3 c3] 25)).cell? ⟨w.heap.size, 2, none⟩ = some (.slice a2 m2 c2) := by simp only [World.cell?, HA]; rfl
  have q3' : (w.alloc (.cells #[.int .i64 k, .slice a1 n1 c1, .slice a2 m2 c2, .slice a3 n3 c3] 25)).cell? ⟨w.heap.size, 3, none⟩ = some (.slice a3 n3 c3) := by simp only [World.cell?, HA]; rfl
  have hh' : w.heap.size < (w.alloc (.cells #[.int .i64 k, .slice a1 n1 c1, .slice a2 m2 c2, .slice a3 n3 c3] 25)).heap.size := by simp
  have BW : Hid (Below w.heap.size w (w.alloc (.cells #[.int .i64 k, .slice a1 n1 c1, .slice a2 m2 c2, .slice a3 n3 c3] 25))) := B0
  clear HA
  go_enter Try.func10, Try.ntmps10
  go_wp2_with fail
  generalize w.alloc (.cells #[.int .i64 k, .slice a1 n1 c1, .slice a2 m2 c2, .slice a3 n3 c3] 25) = W1 at *
  generalize hg0 : w.heap.size = g0 at *
  refine (KR.out W1 (hg0 ▸ B0)).mono (fun e W0 he => ?_)
  obtain ⟨la, n, lc, rfl, hx0, bR⟩ := he
  have hx : Hid _ := hx0
  clear hx0
  have q0 := (bR.cell (p := ⟨g0, 0, none⟩) hh').trans q0'
  have q1 := (bR.cell (p := ⟨g0, 1, none⟩) hh').trans q1'
  have q2 := (bR.cell (p := ⟨g0, 2, none⟩) hh').trans q2'
  have q3 := (bR.cell (p := ⟨g0, 3, none⟩) hh').trans q3'
  have hh : g0 < W0.heap.size := Nat.lt_of_lt_of_le hh' bR.size
  have BW0 : Hid (Below w.heap.size w W0) := by
    show Below _ _ _
    rw [hg0]
    exact BW.out.trans (bR.mono (by have := BW.out.size; omega))
  clear q0' q1' q2' q3' hh' bR BW B0 KR
  have HI : Hid (i0 < n) := by have := hx.out.1; show _ < _; omega
  go_wp2_with fail
  go_loopw [14] (fun i wr => ∃ j : Nat, j ≤ i0 ∧ i = .int .i64 (j : Int) ∧ Below W0.heap.size W0 wr) (fun i _ => ((n : Int) - intOf i).toNat)
  case atStart => exact ⟨0, Nat.zero_le _, rfl, Below.refl _ _⟩
  case round =>
    obtain ⟨j, hj, rfl, hB⟩ := hrel
    by_cases hlt : j < n
    · have d0 : decide ((j : Int) < (n : Int)) = true := decide_eq_true (by omega)
      have d1 : (0 : Int) ≤ (j : Int) := by omega
      have d2 : (j : Int) < (n : Int) := by omega
      have hjl : j < l.length := by have := hx.out.1; omega
      obtain ⟨a', cap', e2, -, hq⟩ := hx.out.2
      obtain ⟨g, off, rfl, hg, hcell⟩ := hq (by omega)
      injection e2 with e2 e2' e2''
      subst e2
      clear e2' e2''
      obtain ⟨x0, x1⟩ := hcell j hjl
      have y0 := (hB.cell (p := ⟨g, off + 2 * j, none⟩) hg).trans x0
      have y1 := (hB.cell (p := ⟨g, off + 2 * j + 1, none⟩) hg).trans x1
      have hg2 : g < wr.heap.size := Nat.lt_of_lt_of_le hg hB.size
      rw [Nat.mul_comm 2 j] at y0 y1
      have e5 : Hid (wrap64 ((j : Int) + 1) = ((j + 1 : Nat) : Int)) := by have := hx.out.1; show _ = _; unfold wrap64; omega
      have B2 : Hid (Below W0.heap.size W0 (wr.alloc (.cells #[.string (st (l.getD j n2).1), .string (st (l.getD j n2).2)] 51))) := hB.alloc hB.size _
      have z1 := st_size (l.getD j n2).1
      have z2 := st_size (l.getD j n2).2
      by_cases hji : j = i0
      · subst hji
        have hbad := HB1.out
        have BF : Hid (Below w.heap.size w (wr.alloc (.cells #[.string (st (l.getD j n2).1), .string (st (l.getD j n2).2)] 51))) := BW0.out.trans (B2.out.mono BW0.out.size)
        clear HB0 HB1
        generalize l.getD j n2 = r at *
        obtain ⟨rp, rv⟩ := r
        have hb2 := bad_ways rp rv hbad
        dsimp only at *
        clear hbad hq hcell x0 x1 B2 hB hx
        generalize st rp = X at *
        generalize st rv = Y at *
        generalize rp.length = a at *
        generalize rv.length = b at *
        rcases hb2 with t1 | ⟨t1, t2⟩ | ⟨t1, t2, t3⟩ | ⟨t1, t2, t3, t4⟩
        · skip
          go_wp2_with fail
          go_ret
          exact ⟨rfl, by first | exact BF.out | (rw [← hg0]; exact BF.out)⟩
        · have s2 : decide (64 < a) = true := decide_eq_true t2
          have s3 : decide ((64 : Int) < (a : Int)) = true := decide_eq_true (by omega)
          go_wp2_with fail
          go_ret
          exact ⟨rfl, by first | exact BF.out | (rw [← hg0]; exact BF.out)⟩
        · have s2 : decide (64 < a) = false := decide_eq_false (by omega)
          have s3 : decide ((64 : Int) < (a : Int)) = false := decide_eq_false (by omega)
          subst t3
          go_wp2_with fail
          go_ret
          exact ⟨rfl, by first | exact BF.out | (rw [← hg0]; exact BF.out)⟩
        · have s2 : decide (64 < a) = false := decide_eq_false (by omega)
          have s3 : decide ((64 : Int) < (a : Int)) = false := decide_eq_false (by omega)
          have s4 : (b == 0) = false := beq_eq_false_iff_ne.2 (by omega)
          have s5 : ((b : Int) == 0) = false := beq_eq_false_iff_ne.2 (by omega)
          have s6 : decide (1024 < b) = true := decide_eq_true t4
          have s7 : decide ((1024 : Int) < (b : Int)) = true := decide_eq_true (by omega)
          go_wp2_with fail
          go_ret
          exact ⟨rfl, by first | exact BF.out | (rw [← hg0]; exact BF.out)⟩
      · have hok := HB0.out j (by omega)
        clear HB0 HB1
        generalize l.getD j n2 = r at *
        obtain ⟨rp, rv⟩ := r
        have hb2 := ok_ways rp rv hok
        dsimp only at *
        clear hok hq hcell x0 x1
        generalize st rp = X at *
        generalize st rv = Y at *
        generalize rp.length = a at *
        generalize rv.length = b at *
        obtain ⟨t1, t2, t3, t4⟩ := hb2
        have s2 : decide (64 < a) = false := decide_eq_false (by omega)
        have s3 : decide ((64 : Int) < (a : Int)) = false := decide_eq_false (by omega)
        have s4 : (b == 0) = false := beq_eq_false_iff_ne.2 (by omega)
        have s5 : ((b : Int) == 0) = false := beq_eq_false_iff_ne.2 (by omega)
        have s6 : decide (1024 < b) = false := decide_eq_false (by omega)
        have s7 : decide ((1024 : Int) < (b : Int)) = false := decide_eq_false (by omega)
        go_wp2_with fail
        first | rw [e5.out] | rw [show (j : Int) + 1 = ((j + 1 : Nat) : Int) from by omega]
        exact ⟨⟨j + 1, by omega, rfl, B2.out⟩, msr_up j n hlt⟩
    · exact absurd hlt (by have := HI.out; omega)
set_option maxHeartbeats 2000000 in
set_option maxRecDepth 100000 in
theorem gr_true (k : Int) (a1 a2 a3 : Option Addr) (n1 c1 m2 c2 n3 c3 : Nat) (w : World) (l : Rt) (hlen : l.length ≤ 1048576) (KR : Hid (∀ wx : World, Below w.heap.size w wx → Calls Try.prog 23 #[.agg #[.int .i64 k, .slice a1 n1 c1, .slice a2 m2 c2, .slice a3 n3 c3], .string ⟨#[]⟩] wx fun e w' => ∃ la n lc, e = .returned (.tuple #[.slice la n lc, .bool true]) ∧ (n = l.length ∧ Rv l (.slice la n lc) w') ∧ Below wx.heap.size wx w')) (HOK : Hid (∀ j, j < l.length → okb (l.getD j n2) = true)) (T : Nd) (R : Bool) (KG0 : Hid (∀ (v : Value) (wx : World), Rv l v wx → Calls Try.prog 24 #[v] wx fun e w' => ∃ y : V4, e = .returned (v4 y) ∧ Nv (fun _ => True) w' T y ∧ Below wx.heap.size wx w')) (KS0 : Hid (∀ (y : V4) (wx : World), Below w.heap.size w wx → Nv (fun _ => True) wx T y → Calls Try.prog 15 #[.agg #[.int .i64 k, .slice a1 n1 c1, .slice a2 m2 c2, .slice a3 n3 c3], v4 y] wx fun e w' => e = .returned (.bool R) ∧ Below wx.heap.size wx w')) :
    Calls Try.prog 10 #[.agg #[.int .i64 k, .slice a1 n1 c1, .slice a2 m2 c2, .slice a3 n3 c3]] w fun e w' => e = .returned (.bool R) ∧ Below w.heap.size w w' := by
  have B0 : Below w.heap.size w (w.alloc (.cells #[.int .i64 k, .slice a1 n1 c1, .slice a2 m2 c2, .slice a3 n3 c3] 25)) := (Below.refl _ _).alloc (Nat.le_refl _) _
  have HA := heap_alloc_new w (.cells #[.int .i64 k, .slice a1 n1 c1, .slice a2 m2 c2, .slice a3 n3 c3] 25)
  have q0' : (w.alloc (.cells #[.int .i64 k, .slice a1 n1 c1, .slice a2 m2 c2, .slice a3 n3 c3] 25)).cell? ⟨w.heap.size, 0, none⟩ = some (.int .i64 k) := by simp only [World.cell?, HA]; rfl
  have q1' : (w.alloc (.cells #[.int .i64 k, .slice a1 n1 c1, .slice a2 m2 c2, .slice a3 n3 c3] 25)).cell? ⟨w.heap.size, 1, none⟩ = some (.slice a1 n1 c1) := by simp only [World.cell?, HA]; rfl
  have q2' : (w.alloc (.cells #[.int .i64 k, .slice a1 n1 c1, .slice a2 m2 c2, .slice a3 n3 c3] 25)).cell? ⟨w.heap.size, 2, none⟩ = some (.slice a2 m2 c2) := by simp only [World.cell?, HA]; rfl
  have q3' : (w.alloc (.cells #[.int .i64 k, .slice a1 n1 c1, .slice a2 m2 c2, .slice a3 n3 c3] 25)).cell? ⟨w.heap.size, 3, none⟩ = some (.slice a3 n3 c3) := by simp only [World.cell?, HA]; rfl
  have hh' : w.heap.size < (w.alloc (.cells #[.int .i64 k, .slice a1 n1 c1, .slice a2 m2 c2, .slice a3 n3 c3] 25)).heap.size := by simp
  have BW : Hid (Below w.heap.size w (w.alloc (.cells #[.int .i64 k, .slice a1 n1 c1, .slice a2 m2 c2, .slice a3 n3 c3] 25))) := B0
  clear HA
  go_enter Try.func10, Try.ntmps10
  go_wp2_with fail
  generalize w.alloc (.cells #[.int .i64 k, .slice a1 n1 c1, .slice a2 m2 c2, .slice a3 n3 c3] 25) = W1 at *
  generalize hg0 : w.heap.size = g0 at *
  refine (KR.out W1 (hg0 ▸ B0)).mono (fun e W0 he => ?_)
  obtain ⟨la, n, lc, rfl, hx0, bR⟩ := he
  have hx : Hid _ := hx0
  clear hx0
  have q0 := (bR.cell (p := ⟨g0, 0, none⟩) hh').trans q0'
  have q1 := (bR.cell (p := ⟨g0, 1, none⟩) hh').trans q1'
  have q2 := (bR.cell (p := ⟨g0, 2, none⟩) hh').trans q2'
  have q3 := (bR.cell (p := ⟨g0, 3, none⟩) hh').trans q3'
  have hh : g0 < W0.heap.size := Nat.lt_of_lt_of_le hh' bR.size
  have BW0 : Hid (Below w.heap.size w W0) := by
    show Below _ _ _
    rw [hg0]
    exact BW.out.trans (bR.mono (by have := BW.out.size; omega))
  clear q0' q1' q2' q3' hh' bR BW B0 KR
  go_wp2_with fail
  go_loopw [14] (fun i wr => ∃ j : Nat, j ≤ n ∧ i = .int .i64 (j : Int) ∧ Below W0.heap.size W0 wr) (fun i _ => ((n : Int) - intOf i).toNat)
  case atStart => exact ⟨0, Nat.zero_le _, rfl, Below.refl _ _⟩
  case round =>
    obtain ⟨j, hj, rfl, hB⟩ := hrel
    by_cases hlt : j < n
    · have d0 : decide ((j : Int) < (n : Int)) = true := decide_eq_true (by omega)
      have d1 : (0 : Int) ≤ (j : Int) := by omega
      have d2 : (j : Int) < (n : Int) := by omega
      have hjl : j < l.length := by have := hx.out.1; omega
      obtain ⟨a', cap', e2, -, hq⟩ := hx.out.2
      obtain ⟨g, off, rfl, hg, hcell⟩ := hq (by omega)
      injection e2 with e2 e2' e2''
      subst e2
      clear e2' e2''
      obtain ⟨x0, x1⟩ := hcell j hjl
      have y0 := (hB.cell (p := ⟨g, off + 2 * j, none⟩) hg).trans x0
      have y1 := (hB.cell (p := ⟨g, off + 2 * j + 1, none⟩) hg).trans x1
      have hg2 : g < wr.heap.size := Nat.lt_of_lt_of_le hg hB.size
      rw [Nat.mul_comm 2 j] at y0 y1
      have e5 : Hid (wrap64 ((j : Int) + 1) = ((j + 1 : Nat) : Int)) := by have := hx.out.1; show _ = _; unfold wrap64; omega
      have B2 : Hid (Below W0.heap.size W0 (wr.alloc (.cells #[.string (st (l.getD j n2).1), .string (st (l.getD j n2).2)] 51))) := hB.alloc hB.size _
      have z1 := st_size (l.getD j n2).1
      have z2 := st_size (l.getD j n2).2
      have hok := HOK.out j hjl
      generalize l.getD j n2 = r at *
      obtain ⟨rp, rv⟩ := r
      have hb2 := ok_ways rp rv hok
      dsimp only at *
      clear hok hq hcell x0 x1
      generalize st rp = X at *
      generalize st rv = Y at *
      generalize rp.length = a at *
      generalize rv.length = b at *
      obtain ⟨t1, t2, t3, t4⟩ := hb2
      have s2 : decide (64 < a) = false := decide_eq_false (by omega)
      have s3 : decide ((64 : Int) < (a : Int)) = false := decide_eq_false (by omega)
      have s4 : (b == 0) = false := beq_eq_false_iff_ne.2 (by omega)
      have s5 : ((b : Int) == 0) = false := beq_eq_false_iff_ne.2 (by omega)
      have s6 : decide (1024 < b) = false := decide_eq_false (by omega)
      have s7 : decide ((1024 : Int) < (b : Int)) = false := decide_eq_false (by omega)
      go_wp2_with fail
      first | rw [e5.out] | rw [show (j : Int) + 1 = ((j + 1 : Nat) : Int) from by omega]
      exact ⟨⟨j + 1, by omega, rfl, B2.out⟩, msr_up j n hlt⟩
    · have d0 : decide ((j : Int) < (n : Int)) = false := decide_eq_false (by omega)
      have BF : Hid (Below w.heap.size w wr) := BW0.out.trans (hB.mono BW0.out.size)
      have KG : Hid (∀ wx : World, Below wr.heap.size wr wx → Calls Try.prog 24 #[.slice la n lc] wx fun e w' => ∃ y : V4, e = .returned (v4 y) ∧ Nv (fun _ => True) w' T y ∧ Below wx.heap.size wx w') := fun wx hb => KG0.out _ wx (Rv_below (Rv_below hx.out.2 hB) hb)
      have KS : Hid (∀ (y : V4) (wx : World), Below wr.heap.size wr wx → Nv (fun _ => True) wx T y → Calls Try.prog 15 #[.agg #[.int .i64 k, .slice a1 n1 c1, .slice a2 m2 c2, .slice a3 n3 c3], v4 y] wx fun e w' => e = .returned (.bool R) ∧ Below wx.heap.size wx w') := fun y wx hb hy => KS0.out y wx (by first | exact BF.out.trans (hb.mono BF.out.size) | (rw [← hg0]; exact BF.out.trans (hb.mono BF.out.size))) hy
      replace q0 := (hB.cell (p := ⟨g0, 0, none⟩) hh).trans q0
      replace q1 := (hB.cell (p := ⟨g0, 1, none⟩) hh).trans q1
      replace q2 := (hB.cell (p := ⟨g0, 2, none⟩) hh).trans q2
      replace q3 := (hB.cell (p := ⟨g0, 3, none⟩) hh).trans q3
      replace hh := Nat.lt_of_lt_of_le hh hB.size
      clear KG0 KS0
      go_upto_region 8 with fail
      have hw0 : Below wr.heap.size wr wr.drew := (Below.refl _ _).drew
      refine RI.wp_region_inv (GRT wr k a1 a2 a3 n1 c1 m2 c2 n3 c3 la n lc g0 j T R u6 u16 u17 u18 u19 u20 u21 u22 u23 u24 u25 u26 u27 u28 u29 u30 u31 u32 u33 u34 u35 u36 u37 u38 u39 u40 u41) (by kernel_rfl) (by kernel_rfl) ?_ ?_ ?_
      · exact ⟨_, undef, undef, undef, undef, undef, undef, undef, rfl, hw0, nofun, nofun, nofun, nofun, nofun, nofun, nofun, nofun⟩
      · skip
        intro d x wx i hI hi hm
        obtain ⟨u2, u42, u43, u44, u45, u46, u47, u48, rfl, hw, p0, p1, p2, p3, p5, p6, p7, z4⟩ := hI
        have hi' : i = 0 ∨ i = 1 ∨ i = 2 ∨ i = 3 ∨ i = 4 ∨ i = 5 ∨ i = 6 ∨ i = 7 := by simp at hi; omega
        have hd := hm.2
        clear hm hi
        rcases hi' with rfl | rfl | rfl | rfl | rfl | rfl | rfl | rfl
        · refine RI.wpOp_plain rfl rfl ?_
          go_simp
          exact ⟨u2, _, u43, u44, u45, u46, u47, u48, rfl, hw, fun _ => rfl, p1, p2, p3, p5, p6, p7, z4⟩
        · have hd := hd _ rfl
          simp [Region.binds] at hd
          obtain rfl := p0 (by simp [hd])
          refine RI.wpOp_plain rfl rfl ?_
          go_simp
          exact ⟨u2, _, _, u44, u45, u46, u47, u48, rfl, hw, p0, fun _ => rfl, p2, p3, p5, p6, p7, z4⟩
        · have hd := hd _ rfl
          simp [Region.binds] at hd
          obtain rfl := p1 (by simp [hd])
          refine RI.wpOp_guard rfl rfl rfl ?_
          have x0 := (hw.cell (p := ⟨g0, 0, none⟩) hh).trans q0
          have x1 := (hw.cell (p := ⟨g0, 1, none⟩) hh).trans q1
          have x2 := (hw.cell (p := ⟨g0, 2, none⟩) hh).trans q2
          have x3 := (hw.cell (p := ⟨g0, 3, none⟩) hh).trans q3
          go_simp
          exact ⟨u2, u42, _, _, u45, u46, u47, u48, rfl, hw, p0, p1, fun _ => rfl, p3, p5, p6, p7, z4⟩
        · have hd := hd _ rfl
          simp [Region.binds] at hd
          obtain rfl := p1 (by simp [hd])
          refine RI.wpOp_guard rfl rfl rfl ?_
          go_simp
          exact ⟨u2, u42, _, u44, _, u46, u47, u48, rfl, hw, p0, p1, p2, fun _ => rfl, p5, p6, p7, z4⟩
        · have hd := hd _ rfl
          simp [Region.binds] at hd
          obtain rfl := p1 (by simp [hd])
          obtain rfl := p3 (by simp [hd])
          refine RI.wpOp_guard rfl rfl rfl ?_
          go_simp
          refine (KG.out _ hw).mono ?_
          rintro e w1 ⟨y, rfl, hy, hb1⟩
          exact ⟨u2, u42, _, u44, _, _, u47, u48, rfl, hw.trans (hb1.mono hw.size), p0, p1, p2, p3, p5, p6, p7, fun _ => ⟨y, rfl, hy⟩⟩
        · have hd := hd _ rfl
          simp [Region.binds] at hd
          obtain rfl := p1 (by simp [hd])
          obtain rfl := p2 (by simp [hd])
          refine RI.wpOp_guard rfl rfl rfl ?_
          obtain ⟨y, rfl, hy⟩ := z4 (by simp [hd])
          unfold v4
          go_simp
          refine (KS.out y _ hw hy).mono ?_
          rintro e w1 ⟨rfl, hb1⟩
          exact ⟨u2, u42, _, _, u45, _, _, u48, rfl, hw.trans (hb1.mono hw.size), p0, p1, p2, p3, fun _ => rfl, p6, p7, (fun h => (z4 h).imp fun y hy => ⟨hy.1, Nv_below hy.2 hb1⟩)⟩
        · have hd := hd _ rfl
          simp [Region.binds] at hd
          obtain rfl := p1 (by simp [hd])
          obtain rfl := p5 (by simp [hd])
          refine RI.wpOp_plain rfl rfl ?_
          go_simp
          exact ⟨u2, u42, _, u44, u45, u46, _, _, rfl, hw, p0, p1, p2, p3, p5, fun _ => rfl, p7, z4⟩
        · have hd := hd _ rfl
          simp [Region.binds] at hd
          obtain rfl := p0 (by simp [hd])
          obtain rfl := p1 (by simp [hd])
          obtain rfl := p2 (by simp [hd])
          obtain rfl := p3 (by simp [hd])
          obtain rfl := p5 (by simp [hd])
          obtain rfl := p6 (by simp [hd])
          refine RI.wpOp_plain rfl rfl ?_
          go_simp
          exact ⟨_, _, _, _, _, u46, _, _, rfl, hw, p0, p1, p2, p3, p5, p6, fun _ => rfl, z4⟩
      · skip
        intro d x wx hI hd
        obtain ⟨u2, u42, u43, u44, u45, u46, u47, u48, rfl, hw, p0, p1, p2, p3, p5, p6, p7, z4⟩ := hI
        obtain rfl := p7 (hd 7 (by decide))
        clear p0 p1 p2 p3 p5 p6 z4
        have HB : Hid (Below w.heap.size w wx) := BF.out.trans (hw.mono BF.out.size)
        clear hw
        go_wp2_with fail
        go_ret
        exact ⟨rfl, by first | exact HB.out | (rw [← hg0]; exact HB.out)⟩
theorem all_or (l : Rt) : l.all okb = true ∨ ∃ i, i < l.length ∧ (∀ j, j < i → okb (l.getD j n2) = true) ∧ okb (l.getD i n2) = false := by
  induction l with
  | nil => exact .inl rfl
  | cons r l ih =>
    cases h : okb r with
    | false => exact .inr ⟨0, by simp, fun j hj => absurd hj (by omega), h⟩
    | true =>
      rcases ih with ih | ⟨i, h1, h2, h3⟩
      · exact .inl (by rw [List.all_cons, h, ih]; rfl)
      · refine .inr ⟨i + 1, by simpa using h1, fun j hj => ?_, h3⟩
        cases j with
        | zero => exact h
        | succ j => exact h2 j (by omega)
/-- GRight, where grown does what it should. -/
theorem gright_any (hg : GrownOk) (t : Nd) (hs : Sm t) (S : Nat → Prop) (x : V4) (w : World) (hx : Nv S w t x) (hw : wn t ≤ 1048576) :
    Calls Try.prog 10 #[v4 x] w fun e w' => e = .returned (.bool (gr t)) ∧ Below w.heap.size w w' := by
  have hx0 := hx
  obtain ⟨k, a1, n1, c1, a2, m2, c2, a3, n3, c3, rfl⟩ := Nv_form hx
  have K : ∀ wx : World, Below w.heap.size w wx → Calls Try.prog 23 #[v4 (.int .i64 k, .slice a1 n1 c1, .slice a2 m2 c2, .slice a3 n3 c3), .string (st [])] wx fun e w' => RT t [] e w' ∧ Below wx.heap.size wx w' := fun wx hb => routes_any (wf_any t) S _ wx [] (Nv_below hx hb) (by rw [List.length_nil]; omega)
  unfold gr
  cases hr : rt t with
  | none =>
    refine gr_false k a1 a2 a3 n1 c1 m2 c2 n3 c3 w (fun wx hb => (K wx hb).mono fun e w' he => ?_)
    obtain ⟨h1 | h1, h2⟩ := he
    · obtain ⟨l, y, h3, _⟩ := h1
      rw [hr] at h3; cases h3
    · exact ⟨none, 0, 0, h1.2, rfl, h2⟩
  | some l =>
    have hp : pre [] l = l := by unfold pre; simp
    have hlen : l.length ≤ 1048576 := Nat.le_trans (rt_count (wf_any t) l hr) hw
    have KR : ∀ wx : World, Below w.heap.size w wx → Calls Try.prog 23 #[.agg #[.int .i64 k, .slice a1 n1 c1, .slice a2 m2 c2, .slice a3 n3 c3], .string ⟨#[]⟩] wx fun e w' => ∃ la n lc, e = .returned (.tuple #[.slice la n lc, .bool true]) ∧ (n = l.length ∧ Rv l (.slice la n lc) w') ∧ Below wx.heap.size wx w' := fun wx hb => (K wx hb).mono fun e w' he => by
      obtain ⟨h1 | h1, h2⟩ := he
      · obtain ⟨l2, y, h3, h4, h5⟩ := h1
        rw [hr] at h3
        cases h3
        rw [hp] at h5
        have h6 := h5
        obtain ⟨la, lc, rfl, -, -⟩ := h5
        exact ⟨la, _, lc, h4, ⟨rfl, h6⟩, h2⟩
      · rw [hr] at h1; cases h1.1
    rcases all_or l with ha | ⟨i, h1, h2, h3⟩
    · show Calls _ _ _ _ fun e w' => e = .returned (.bool (l.all okb && sn t (grw l))) ∧ _
      rw [ha, Bool.true_and]
      obtain ⟨r1, r2, _⟩ := rt_spec hr
      have hok : ∀ r ∈ l, Okr r.1 r.2 := fun r hr => (okb_iff r).1 (List.all_eq_true.1 ha r hr)
      have hsh : ∀ r ∈ l, r.1.length < 65 := fun r hr => Nat.lt_succ_of_le (hok r hr).2.1
      have KG : ∀ (v : Value) (wx : World), Rv l v wx → Calls Try.prog 24 #[v] wx fun e w' => ∃ y : V4, e = .returned (v4 y) ∧ Nv (fun _ => True) w' (grw l) y ∧ Below wx.heap.size wx w' := fun v wx hv => (hg l v wx hv hlen hsh r1 r2).mono fun e w' he => by
        obtain ⟨u, h1, h2, h3⟩ := he
        exact ⟨u, h1, Nv_mono h2 (fun _ _ _ => trivial), h3⟩
      generalize grw l = T at *
      exact gr_true k a1 a2 a3 n1 c1 m2 c2 n3 c3 w l hlen KR (fun j hj => List.all_eq_true.1 ha _ (by rw [List.getD_eq_getElem?_getD, List.getElem?_eq_getElem hj]; exact List.getElem_mem hj)) T _ KG (fun y wx hb hy => same_any hs T S (fun _ => True) (.int .i64 k, .slice a1 n1 c1, .slice a2 m2 c2, .slice a3 n3 c3) y wx (Nv_below hx0 hb) hy)
    · have hb : l.all okb = false := by
        cases h : l.all okb with
        | false => rfl
        | true =>
          have := List.all_eq_true.1 h (l.getD i n2) (by rw [List.getD_eq_getElem?_getD, List.getElem?_eq_getElem h1]; exact List.getElem_mem h1)
          rw [h3] at this; cases this
      show Calls _ _ _ _ fun e w' => e = .returned (.bool (l.all okb && sn t (grw l))) ∧ _
      rw [hb, Bool.false_and]
      exact gr_bad k a1 a2 a3 n1 c1 m2 c2 n3 c3 w l hlen KR i h1 h2 h3
end Tr
end Go.Proofs.Ytdcbgldelfhohaa
/- lampbearerref.grown: of nothing, and of one. -/
namespace Go.Proofs.Ytdcbgldelfhohaa
namespace Tr
open Nb Go.RowKit
theorem infoNd : (Try.prog.info? 25).map (·.size) = some 4 := by kernel_rfl
/-- A slice of bytes, its room told. -/
def SlC (b : By) (v : Value) (w : World) : Prop := ∃ (ao : Option Addr) (cap : Nat), v = .slice ao b.length cap ∧ b.length ≤ cap ∧ (cap : Int) ≤ 9223372036854775807 ∧ Sp.Vw b ao w
theorem SlC_below {b : By} {v : Value} {w w' : World} (h : SlC b v w) (hb : Below w.heap.size w w') : SlC b v w' := by
  obtain ⟨ao, cap, h1, h2, h3, h4⟩ := h
  exact ⟨ao, cap, h1, h2, h3, Sp.Vw_below h4 hb⟩
theorem st_slc (l : By) (hl : l.length ≤ 4194304) (w : World) : ∃ c W, (convert 9 22 (.string (st l))).run Try.prog w = .ok (.slice (some ⟨w.heap.size, 0, none⟩) l.length c) W ∧ SlC l (.slice (some ⟨w.heap.size, 0, none⟩) l.length c) W ∧ W.heap.size = w.heap.size + 1 ∧ Below w.heap.size w W := by
  obtain ⟨c, W, h1, h2, h3, h4⟩ := st_sl l w
  have h := Lib.run_convert_string_bytes w 9 22 5 (st l) Try.underlying9 Try.underlying22 Try.underlying5
  rw [st_size, h1] at h
  injection h with e1 e2
  injection e1 with _ _ e3
  have hm : c ≤ maxLen := by rw [e3]; exact grownCap_le_maxLen _ _ _ _ (by unfold maxLen; omega)
  obtain ⟨ao, cap, k1, k2, k3⟩ := h2
  injection k1 with f1 f2 f3
  subst f1 f3
  exact ⟨c, W, h1, ⟨_, _, rfl, k2, by unfold maxLen at hm; omega, k3⟩, h3, h4⟩
/-- A variable of a node at block G. -/
structure B4 (G : Nat) (w : World) : Prop where
  hi : G < w.heap.size
  c : ∀ o, o < 4 → (w.cell? ⟨G, o, none⟩).isSome = true
  f : ∀ o, w.frozen? ⟨G, o, none⟩ = false
theorem B4_gb {G : Nat} {w w' : World} {r : Option Nat} (h : B4 G w) (hb : w.grownBy w' r) (hr : some G ≠ r) : B4 G w' := by
  have hbk : w'.heap[G]? = w.heap[G]? := hb.block G h.hi hr
  exact ⟨Nat.lt_of_lt_of_le h.hi hb.size, fun o ho => by rw [World.cell?_of_block (a := ⟨G, o, none⟩) hbk]; exact h.c o ho, fun o => (World.frozen?_of_block (a := ⟨G, o, none⟩) hbk).trans (h.f o)⟩
theorem B4_new (w : World) : B4 w.heap.size (w.alloc (.cells #[.int .i64 0, .slice none 0 0, .slice none 0 0, .slice none 0 0] 25)) := by
  have hn := heap_alloc_new w (.cells #[.int .i64 0, .slice none 0 0, .slice none 0 0, .slice none 0 0] 25)
  refine ⟨by simp, fun o ho => ?_, fun o => by simp only [World.frozen?, hn]; simp⟩
  simp only [World.cell?, hn]
  have : o = 0 ∨ o = 1 ∨ o = 2 ∨ o = 3 := by omega
  rcases this with rfl | rfl | rfl | rfl <;> rfl
theorem gb_refl (w : World) (r : Option Nat) : w.grownBy w r := ⟨rfl, rfl, rfl, Nat.le_refl _, fun _ _ _ => rfl⟩
theorem gb_trans {a b c : World} {r : Option Nat} (h : a.grownBy b r) (k : b.grownBy c r) : a.grownBy c r :=
  ⟨k.os.trans h.os, k.tape.trans h.tape, k.output.trans h.output, Nat.le_trans h.size k.size, fun j hj hne => (k.block j (Nat.lt_of_lt_of_le hj h.size) hne).trans (h.block j hj hne)⟩
theorem gb_set (a : World) (g o : Nat) (v : Value) : a.grownBy (a.setCell ⟨g, o, none⟩ v) (some g) := ⟨rfl, rfl, rfl, by simp [World.setCell], fun k _ hne => Below.heap_setCell _ _ _ _ (fun e => hne (by rw [e]))⟩
theorem gb_sets (G : Nat) : ∀ (vs : List Value) (o : Nat) (w : World), w.grownBy (w.setCells G o vs) (some G)
  | [], _, w => gb_refl w _
  | v :: vs, o, w => gb_trans (gb_set w G o v) (gb_sets G vs (o + 1) (w.setCell ⟨G, o, none⟩ v))
/-- A node is laid into its variable. -/
theorem wp_st4 {op : Oper} {a : Act} {w : World} {K : Act → World → Prop} {Q : Exit → Act → World → Prop} {x y : Operand} {G : Nat} {k : Int} {a1 a2 a3 : Option Addr} {n1 c1 n2 c2 n3 c3 : Nat} (ho : op.op = .store 25 x y)
    (hx : a.eval x = .pointer (some ⟨G, 0, none⟩)) (hy : a.eval y = .agg #[.int .i64 k, .slice a1 n1 c1, .slice a2 n2 c2, .slice a3 n3 c3]) (hB : B4 G w)
    (h : ∀ w', w.grownBy w' (some G) → w'.cell? ⟨G, 0, none⟩ = some (.int .i64 k) → w'.cell? ⟨G, 1, none⟩ = some (.slice a1 n1 c1) → w'.cell? ⟨G, 2, none⟩ = some (.slice a2 n2 c2) → w'.cell? ⟨G, 3, none⟩ = some (.slice a3 n3 c3) → K (a.put op.dst undef) w') : op.wp Try.prog a w K Q := by
  have ht : w.there G 0 4 := fun j hj => by rw [Nat.zero_add]; exact ⟨hB.c j hj, hB.f j⟩
  have hs := World.rangeAt_setCells_same w G 0 [.int .i64 k, .slice a1 n1 c1, .slice a2 n2 c2, .slice a3 n3 c3] ht
  refine wp_store_mid 25 x y ho G 0 #[.int .i64 k, .slice a1 n1 c1, .slice a2 n2 c2, .slice a3 n3 c3] hx hy ht infoNd (all_oneCell_toArray (cs := [.int .i64 k, .slice a1 n1 c1, .slice a2 n2 c2, .slice a3 n3 c3]) (fun v hv => by simp only [List.mem_cons, List.not_mem_nil, or_false] at hv; rcases hv with rfl | rfl | rfl | rfl <;> rfl)) ?_
  exact h _ (gb_sets G _ 0 w) (hs 0 _ rfl) (hs 1 _ rfl) (hs 2 _ rfl) (hs 3 _ rfl)
theorem resN (f : Func) (tm : Array Value) (W : World) (g s : Nat) (p q r t : Value) (hf : f.results = #[.cell s 25]) (h : tm.getD s undef = .pointer (some ⟨g, 0, none⟩)) (c0 : W.cell? ⟨g, 0, none⟩ = some p) (c1 : W.cell? ⟨g, 1, none⟩ = some q) (c2 : W.cell? ⟨g, 2, none⟩ = some r) (c3 : W.cell? ⟨g, 3, none⟩ = some t) : (results f tm).run Try.prog W = .ok (.agg #[p, q, r, t]) W := by
  simp at h
  simp [results, hf, go_sem, h, c0, c1, c2, c3]
structure GW (w W0 : World) (g2 : Nat) (f11 : Bool) (wx : World) : Prop where
  a : f11 = false → Below W0.heap.size W0 wx
  v : f11 = false → B4 g2 wx
  b : Below w.heap.size w wx
  s : W0.heap.size ≤ wx.heap.size
inductive GLI (w W0 : World) (p v : By) (g off cap g2 : Nat) (X Y : ByteArray) (d : Nat → Bool) (x : Act) (wx : World) : Prop where
  | mk (u16 u17 u18 u19 u20 u21 u22 u23 u24 u25 u26 : Value) (hx : x = { tmps := #[.slice (some ⟨g, off, none⟩) 1 cap, undef, .pointer (some ⟨g2, 0, none⟩), undef, undef, undef, undef, undef, undef, .slice (some ⟨g, off, none⟩) 1 cap, .int .i64 1, .bool false, undef, .slice (some ⟨g, off, none⟩) 1 cap, .int .i64 1, .bool true, u16, u17, u18, u19, u20, u21, u22, u23, u24, u25, u26, undef, undef, undef, undef, undef, undef, undef, undef, undef, undef, undef, undef, undef, undef, undef, undef, undef, undef, undef, undef, undef, undef, undef, undef, undef, undef, undef, undef, undef, undef, undef, undef, undef, undef, undef, undef, undef, undef, undef, undef, undef, undef, undef, undef, undef, undef, undef, undef, undef, undef, undef, undef, undef, undef, undef, undef, undef, undef, undef, undef, undef, undef, undef, undef, undef, undef, undef, undef, undef, undef, undef, undef, undef], defers := [] }) (hw : GW w W0 g2 (d 11) wx) (p0 : d 0 = true → u16 = .slice (some ⟨g, off, none⟩) 1 cap) (p1 : d 1 = true → u17 = .pointer (some ⟨g, off, none⟩)) (p2 : d 2 = true → u18 = .pointer (some ⟨g, off, none⟩)) (p3 : d 3 = true → u19 = .string X) (p5 : d 5 = true → u21 = .slice (some ⟨g, off, none⟩) 1 cap) (p6 : d 6 = true → u22 = .pointer (some ⟨g, off, none⟩)) (p7 : d 7 = true → u23 = .pointer (some ⟨g, off + 1, none⟩)) (p8 : d 8 = true → u24 = .string Y) (z4 : d 4 = true → ∃ a c, u20 = .slice a p.length c ∧ Bs (W0.heap.size ≤ ·) p u20 wx) (z9 : d 9 = true → ∃ a c, u25 = .slice a v.length c ∧ Bs (W0.heap.size ≤ ·) v u25 wx) (z10 : d 10 = true → ∃ a1 c1 a2 c2, u26 = .agg #[.int .i64 1, .slice a1 p.length c1, .slice a2 v.length c2, .slice none 0 0] ∧ Bs (W0.heap.size ≤ ·) p (.slice a1 p.length c1) wx ∧ Bs (W0.heap.size ≤ ·) v (.slice a2 v.length c2) wx) (y10 : d 10 = true → d 4 = true ∧ d 9 = true) (z11 : d 11 = true → ∃ a1 c1 a2 c2, wx.cell? ⟨g2, 0, none⟩ = some (.int .i64 1) ∧ wx.cell? ⟨g2, 1, none⟩ = some (.slice a1 p.length c1) ∧ wx.cell? ⟨g2, 2, none⟩ = some (.slice a2 v.length c2) ∧ wx.cell? ⟨g2, 3, none⟩ = some (.slice none 0 0) ∧ Bs (W0.heap.size ≤ ·) p (.slice a1 p.length c1) wx ∧ Bs (W0.heap.size ≤ ·) v (.slice a2 v.length c2) wx) (y11 : d 11 = true → d 3 = true ∧ d 4 = true ∧ d 8 = true ∧ d 9 = true ∧ d 10 = true) : GLI w W0 p v g off cap g2 X Y d x wx
set_option maxHeartbeats 2000000 in
set_option maxRecDepth 100000 in
theorem grown_leaf (p v : By) (g off cap : Nat) (w : World) (hg0 : g < w.heap.size) (h0 : w.cell? ⟨g, off, none⟩ = some (.string (st p))) (h1 : w.cell? ⟨g, off + 1, none⟩ = some (.string (st v))) :
    Calls Try.prog 24 #[.slice (some ⟨g, off, none⟩) 1 cap] w fun e w' => ∃ u : V4, e = .returned (v4 u) ∧ Nv (w.heap.size ≤ ·) w' (.mk 1 p v []) u ∧ Below w.heap.size w w' := by
  have B0 : Below w.heap.size w (w.alloc (.cells #[.int .i64 0, .slice none 0 0, .slice none 0 0, .slice none 0 0] 25)) := (Below.refl _ _).alloc (Nat.le_refl _) _
  have k0 := (B0.cell (p := ⟨g, off, none⟩) hg0).trans h0
  have k1 := (B0.cell (p := ⟨g, off + 1, none⟩) hg0).trans h1
  have hg : g < (w.alloc (.cells #[.int .i64 0, .slice none 0 0, .slice none 0 0, .slice none 0 0] 25)).heap.size := Nat.lt_of_lt_of_le hg0 B0.size
  have hsz : (w.alloc (.cells #[.int .i64 0, .slice none 0 0, .slice none 0 0, .slice none 0 0] 25)).heap.size = w.heap.size + 1 := by simp
  have HX : Hid (∀ W : World, ∃ c W', (convert 9 22 (.string (st p))).run Try.prog W = .ok (.slice (some ⟨W.heap.size, 0, none⟩) p.length c) W' ∧ Pk.Sl p (.slice (some ⟨W.heap.size, 0, none⟩) p.length c) W' ∧ W'.heap.size = W.heap.size + 1 ∧ Below W.heap.size W W') := st_sl p
  have HY : Hid (∀ W : World, ∃ c W', (convert 9 22 (.string (st v))).run Try.prog W = .ok (.slice (some ⟨W.heap.size, 0, none⟩) v.length c) W' ∧ Pk.Sl v (.slice (some ⟨W.heap.size, 0, none⟩) v.length c) W' ∧ W'.heap.size = W.heap.size + 1 ∧ Below W.heap.size W W') := st_sl v
  have BV := B4_new w
  have HGL : Hid (w.heap.size ≤ (w.alloc (.cells #[.int .i64 0, .slice none 0 0, .slice none 0 0, .slice none 0 0] 25)).heap.size) := B0.size
  have HG2 : Hid (w.heap.size < (w.alloc (.cells #[.int .i64 0, .slice none 0 0, .slice none 0 0, .slice none 0 0] 25)).heap.size) := by show _ < _; omega
  have hw0 : GW w (w.alloc (.cells #[.int .i64 0, .slice none 0 0, .slice none 0 0, .slice none 0 0] 25)) w.heap.size false (w.alloc (.cells #[.int .i64 0, .slice none 0 0, .slice none 0 0, .slice none 0 0] 25)).drew := ⟨fun _ => (Below.refl _ _).drew, fun _ => B4_gb (r := none) BV (gb_below (Below.refl _ _).drew) (fun e => by cases e), B0.drew, Nat.le_refl _⟩
  generalize st p = X at *
  generalize st v = Y at *
  clear h0 h1 hg0 BV hsz
  go_enter Try.func24, Try.ntmps24
  go_upto_region 4 with fail
  generalize w.alloc (.cells #[.int .i64 0, .slice none 0 0, .slice none 0 0, .slice none 0 0] 25) = W0 at *
  obtain ⟨g2, eg2⟩ : ∃ g2, g2 = w.heap.size := ⟨_, rfl⟩
  have HG2B : Hid (w.heap.size ≤ g2) := by show _ ≤ _; omega
  rw [← eg2] at HG2 hw0 ⊢
  have E2 : Hid (g2 = w.heap.size) := eg2
  clear eg2
  refine RI.wp_region_inv (GLI w W0 p v g off cap g2 X Y) (by kernel_rfl) (by kernel_rfl) ?_ ?_ ?_
  · exact ⟨undef, undef, undef, undef, undef, undef, undef, undef, undef, undef, undef, rfl, hw0, nofun, nofun, nofun, nofun, nofun, nofun, nofun, nofun, nofun, nofun, nofun, nofun, nofun, nofun⟩
  · skip
    intro d x wx i hI hi hm
    obtain ⟨u16, u17, u18, u19, u20, u21, u22, u23, u24, u25, u26, rfl, hw, p0, p1, p2, p3, p5, p6, p7, p8, z4, z9, z10, y10, z11, y11⟩ := hI
    have hi' : i = 0 ∨ i = 1 ∨ i = 2 ∨ i = 3 ∨ i = 4 ∨ i = 5 ∨ i = 6 ∨ i = 7 ∨ i = 8 ∨ i = 9 ∨ i = 10 ∨ i = 11 := by simp at hi; omega
    have hd := hm.2
    have hf := hm.1
    clear hm hi
    rcases hi' with rfl | rfl | rfl | rfl | rfl | rfl | rfl | rfl | rfl | rfl | rfl | rfl
    · refine RI.wpOp_plain rfl rfl ?_
      go_simp
      exact ⟨_, u17, u18, u19, u20, u21, u22, u23, u24, u25, u26, rfl, hw, fun _ => rfl, p1, p2, p3, p5, p6, p7, p8, z4, z9, z10, y10, z11, y11⟩
    · have hd := hd _ rfl
      simp [Region.binds] at hd
      obtain rfl := p0 (by simp [hd])
      refine RI.wpOp_plain rfl rfl ?_
      go_simp
      exact ⟨_, _, u18, u19, u20, u21, u22, u23, u24, u25, u26, rfl, hw, p0, fun _ => rfl, p2, p3, p5, p6, p7, p8, z4, z9, z10, y10, z11, y11⟩
    · have hd := hd _ rfl
      simp [Region.binds] at hd
      obtain rfl := p1 (by simp [hd])
      refine RI.wpOp_plain rfl rfl ?_
      go_simp
      exact ⟨u16, _, _, u19, u20, u21, u22, u23, u24, u25, u26, rfl, hw, p0, p1, fun _ => rfl, p3, p5, p6, p7, p8, z4, z9, z10, y10, z11, y11⟩
    · have hd := hd _ rfl
      simp [Region.binds] at hd
      obtain rfl := p2 (by simp [hd])
      refine RI.wpOp_plain rfl rfl ?_
      have h11 : d 11 = false := by cases h : d 11 with | false => rfl | true => exact absurd (y11 h).1 (by simp [hf])
      have x0 := ((hw.a h11).cell (p := ⟨g, off, none⟩) hg).trans k0
      go_simp
      exact ⟨u16, u17, _, _, u20, u21, u22, u23, u24, u25, u26, rfl, hw, p0, p1, p2, fun _ => rfl, p5, p6, p7, p8, z4, z9, z10, y10, z11, fun h => absurd h (by simp [RI.don, h11])⟩
    · have hd := hd _ rfl
      simp [Region.binds] at hd
      obtain rfl := p3 (by simp [hd])
      refine RI.wpOp_plain rfl rfl ?_
      have h11 : d 11 = false := by cases h : d 11 with | false => rfl | true => exact absurd (y11 h).2.1 (by simp [hf])
      have h10 : d 10 = false := by cases h : d 10 with | false => rfl | true => exact absurd (y10 h).1 (by simp [hf])
      obtain ⟨cq, w1, hcv, hs1, hsz, hb1⟩ := HX.out wx
      go_simp
      exact ⟨u16, u17, u18, _, _, u21, u22, u23, u24, u25, u26, rfl, ⟨fun h => (hw.a h).trans (hb1.mono hw.s), fun h => B4_gb (r := none) (hw.v h) (gb_below hb1) (fun e => by cases e), hw.b.trans (hb1.mono (Nat.le_trans HGL.out hw.s)), Nat.le_trans hw.s hb1.size⟩, p0, p1, p2, p3, p5, p6, p7, p8, fun _ => ⟨_, _, rfl, sl_bs (S := (W0.heap.size ≤ ·)) hw.s hs1⟩, (fun h => (z9 h).imp fun a ha => ha.imp fun c hc => ⟨hc.1, Bs_below hc.2 hb1⟩), (fun h => absurd h (by simp [RI.don, h10])), (fun h => absurd h (by simp [RI.don, h10])), (fun h => absurd h (by simp [RI.don, h11])), fun h => absurd h (by simp [RI.don, h11])⟩
    · refine RI.wpOp_plain rfl rfl ?_
      go_simp
      exact ⟨u16, u17, u18, u19, u20, _, u22, u23, u24, u25, u26, rfl, hw, p0, p1, p2, p3, fun _ => rfl, p6, p7, p8, z4, z9, z10, y10, z11, y11⟩
    · have hd := hd _ rfl
      simp [Region.binds] at hd
      obtain rfl := p5 (by simp [hd])
      refine RI.wpOp_plain rfl rfl ?_
      go_simp
      exact ⟨u16, u17, u18, u19, u20, _, _, u23, u24, u25, u26, rfl, hw, p0, p1, p2, p3, p5, fun _ => rfl, p7, p8, z4, z9, z10, y10, z11, y11⟩
    · have hd := hd _ rfl
      simp [Region.binds] at hd
      obtain rfl := p6 (by simp [hd])
      refine RI.wpOp_plain rfl rfl ?_
      go_simp
      exact ⟨u16, u17, u18, u19, u20, u21, _, _, u24, u25, u26, rfl, hw, p0, p1, p2, p3, p5, p6, fun _ => rfl, p8, z4, z9, z10, y10, z11, y11⟩
    · have hd := hd _ rfl
      simp [Region.binds] at hd
      obtain rfl := p7 (by simp [hd])
      refine RI.wpOp_plain rfl rfl ?_
      have h11 : d 11 = false := by cases h : d 11 with | false => rfl | true => exact absurd (y11 h).2.2.1 (by simp [hf])
      have x0 := ((hw.a h11).cell (p := ⟨g, off + 1, none⟩) hg).trans k1
      go_simp
      exact ⟨u16, u17, u18, u19, u20, u21, u22, _, _, u25, u26, rfl, hw, p0, p1, p2, p3, p5, p6, p7, fun _ => rfl, z4, z9, z10, y10, z11, fun h => absurd h (by simp [RI.don, h11])⟩
    · have hd := hd _ rfl
      simp [Region.binds] at hd
      obtain rfl := p8 (by simp [hd])
      refine RI.wpOp_plain rfl rfl ?_
      have h11 : d 11 = false := by cases h : d 11 with | false => rfl | true => exact absurd (y11 h).2.2.2.1 (by simp [hf])
      have h10 : d 10 = false := by cases h : d 10 with | false => rfl | true => exact absurd (y10 h).2 (by simp [hf])
      obtain ⟨cq, w1, hcv, hs1, hsz, hb1⟩ := HY.out wx
      go_simp
      exact ⟨u16, u17, u18, u19, u20, u21, u22, u23, _, _, u26, rfl, ⟨fun h => (hw.a h).trans (hb1.mono hw.s), fun h => B4_gb (r := none) (hw.v h) (gb_below hb1) (fun e => by cases e), hw.b.trans (hb1.mono (Nat.le_trans HGL.out hw.s)), Nat.le_trans hw.s hb1.size⟩, p0, p1, p2, p3, p5, p6, p7, p8, (fun h => (z4 h).imp fun a ha => ha.imp fun c hc => ⟨hc.1, Bs_below hc.2 hb1⟩), fun _ => ⟨_, _, rfl, sl_bs (S := (W0.heap.size ≤ ·)) hw.s hs1⟩, (fun h => absurd h (by simp [RI.don, h10])), (fun h => absurd h (by simp [RI.don, h10])), (fun h => absurd h (by simp [RI.don, h11])), fun h => absurd h (by simp [RI.don, h11])⟩
    · have hd := hd _ rfl
      simp [Region.binds] at hd
      refine RI.wpOp_plain rfl rfl ?_
      have h11 : d 11 = false := by cases h : d 11 with | false => rfl | true => exact absurd (y11 h).2.2.2.2 (by simp [hf])
      obtain ⟨qa, qc, rfl, hb4⟩ := z4 (by simp [hd])
      obtain ⟨ra, rc, rfl, hb9⟩ := z9 (by simp [hd])
      go_simp
      exact ⟨u16, u17, u18, u19, _, u21, u22, u23, u24, _, _, rfl, hw, p0, p1, p2, p3, p5, p6, p7, p8, z4, z9, fun _ => ⟨_, _, _, _, rfl, hb4, hb9⟩, fun _ => ⟨by simp [RI.don, hd], by simp [RI.don, hd]⟩, z11, fun h => absurd h (by simp [RI.don, h11])⟩
    · have hd := hd _ rfl
      simp [Region.binds] at hd
      obtain rfl := p0 (by simp [hd])
      obtain rfl := p1 (by simp [hd])
      obtain rfl := p2 (by simp [hd])
      obtain rfl := p3 (by simp [hd])
      obtain rfl := p5 (by simp [hd])
      obtain rfl := p6 (by simp [hd])
      obtain rfl := p7 (by simp [hd])
      obtain rfl := p8 (by simp [hd])
      refine RI.wpOp_plain rfl rfl ?_
      obtain ⟨qa, qc, ra, rc, rfl, hb4, hb9⟩ := z10 (by simp [hd])
      refine wp_st4 rfl rfl rfl (hw.v hf) ?_
      intro w1 gb1 s0 s1 s2 s3
      have NE : ∀ k, W0.heap.size ≤ k → some k ≠ some g2 := fun k hk e => by injection e with e; have := HG2.out; omega
      simp only [Act.put]
      exact ⟨_, _, _, _, u20, _, _, _, _, u25, _, rfl, ⟨nofun, nofun, hw.b.grown gb1 (Nat.le_trans HGL.out hw.s) (fun k e => by injection e with e; have := HG2B.out; omega), Nat.le_trans hw.s gb1.size⟩, p0, p1, p2, p3, p5, p6, p7, p8, fun h => (z4 h).imp fun a ha => ha.imp fun c hc => ⟨hc.1, Bs_gb hc.2 gb1 NE⟩, fun h => (z9 h).imp fun a ha => ha.imp fun c hc => ⟨hc.1, Bs_gb hc.2 gb1 NE⟩, fun _ => ⟨_, _, _, _, rfl, Bs_gb hb4 gb1 NE, Bs_gb hb9 gb1 NE⟩, y10, fun _ => ⟨_, _, _, _, s0, s1, s2, s3, Bs_gb hb4 gb1 (fun k hk e => by injection e with e; have := HG2.out; omega), Bs_gb hb9 gb1 (fun k hk e => by injection e with e; have := HG2.out; omega)⟩, fun _ => ⟨by simp [RI.don, hd], by simp [RI.don, hd], by simp [RI.don, hd], by simp [RI.don, hd], by simp [RI.don, hd]⟩⟩
  · skip
    intro d x wx hI hd
    obtain ⟨u16, u17, u18, u19, u20, u21, u22, u23, u24, u25, u26, rfl, hw, p0, p1, p2, p3, p5, p6, p7, p8, z4, z9, z10, y10, z11, y11⟩ := hI
    obtain ⟨a1, c1, a2, c2, s0, s1, s2, s3, t1, t2⟩ := z11 (hd 11 (by decide))
    have HB : Hid (Below w.heap.size w wx) := hw.b
    have N : Hid (Nv (w.heap.size ≤ ·) wx (.mk 1 p v []) (.int .i64 1, .slice a1 p.length c1, .slice a2 v.length c2, .slice none 0 0)) := .mk 1 p v [] _ _ _ [] (Bs_mono t1 (fun k h _ => Nat.le_trans HGL.out h)) (Bs_mono t2 (fun k h _ => Nat.le_trans HGL.out h)) rfl (Ks_nil _ _) (fun j hj => absurd hj (by simp))
    clear p0 p1 p2 p3 p5 p6 p7 p8 z4 z9 z10 y10 z11 y11 hw t1 t2
    generalize p.length = np at *
    generalize v.length = nv at *
    go_wp2_with fail
    exact bodyPost_ret (v := .agg #[.int .i64 1, .slice a1 np c1, .slice a2 nv c2, .slice none 0 0]) (resN _ _ _ g2 2 _ _ _ _ rfl rfl s0 s1 s2 s3) rfl ⟨(.int .i64 1, .slice a1 np c1, .slice a2 nv c2, .slice none 0 0), rfl, by first | exact N.out | (rw [E2.out]; exact N.out), by first | exact HB.out | (rw [E2.out]; exact HB.out)⟩
end Tr
end Go.Proofs.Ytdcbgldelfhohaa
