import Derived.Test.YthlgneadcagleaaPackA
import Derived.Lib.AppendZeros
import Derived.Deep.MidRow
import Derived.Deep.Cut
import Derived.Laws.MakeOwn
import Derived.Laws.OwnMore
import Derived.Deep.AppendLies
import Derived.Deep.RegionWith
import Derived.BigRegion
import Derived.Lib.BitFns
import Derived.Deep.CutBlock
import Derived.Deep.DeepCutAuto
import Derived.ChangeKeysEq
namespace Go.Proofs.Ythlgneadcagleaa
namespace Ct
open Go.RowKit
theorem wpl_ap {P : Program} {ops : Array Oper} {rest : List Oper} {o : Oper} {a : Act} {Q : Exit → Act → World → Prop} {s x : Operand} {t : TypeId} {v v2 v' : Value} {w w' : World} (hgd : o.guard = none) (ho : o.op = .call { callee := .builtin .append, args := #[s, x], argTypes := #[t, t] }) (hs : a.eval s = v) (hx : a.eval x = v2)
    (hr : (Builtin.append_ #[t, t] o.type #[v, v2]).run P w = .ok v' w') (h : wpList P ops Q rest (a.put o.dst v') w') : wpList P ops Q (o :: rest) a w := by
  refine wpList_plain hgd fun _ hK => ?_
  unfold Oper.wp execOp
  simp only [ho, resolve, invoke, builtin, Sem.run_bind, Sem.run_pure, Result.andThen_ok, List.map_toArray, List.map_cons, List.map_nil, hs, hx, hr]
  exact hK _ _ h
theorem add_lit (g off j : Nat) : (⟨g, off, none⟩ : Addr).add j = ⟨g, off + j, none⟩ := by unfold Addr.add; split <;> simp_all
theorem own_lo {B e s n : Nat} {v : Value} {xs : List Value} {w : World} (h : w.ownsRow B e s v n xs) : ∀ g, v.ownBlock = some g → B ≤ g ∧ g < w.heap.size := by
  rcases h.2 with ⟨h2, _⟩ | ⟨g, cap, cur, h2, h3, h4, h5⟩
  · subst h2; intro g e; cases e
  · subst h2; intro g' e; cases e; exact ⟨h3, Pk.lt_of_heap h4⟩
theorem msr (k n : Nat) (h : k < n) (v : Int) (hv : v = (k : Int) + 1) : ((n : Int) - intOf (.int .i64 v)).toNat < ((n : Int) - intOf (.int .i64 (k : Int))).toNat := by
  show ((n : Int) - v).toNat < ((n : Int) - (k : Int)).toNat
  omega
theorem step_w (k n : Nat) (h : k < n) (hn : Hid (n ≤ 1048576)) : Hid (wrap64 ((k : Int) + 1) = k + 1) := by
  have := hn.out
  show _ = _
  unfold wrap64; omega
theorem step_v (k : Nat) (v : Int) (h : v = (k : Int) + 1) : Value.int .i64 v = .int .i64 ((k + 1 : Nat) : Int) := by rw [h]; rfl
def Vl (xs : List Value) (v : Value) (w : World) : Prop := ∃ (ao : Option Addr) (cap : Nat), v = .slice ao xs.length cap ∧ (0 < xs.length → ∃ g off, ao = some ⟨g, off, none⟩ ∧ g < w.heap.size ∧ ∀ j, j < xs.length → w.cell? ⟨g, off + j, none⟩ = xs[j]?)
theorem Vl_below {xs : List Value} {v : Value} {w w' : World} (h : Vl xs v w) (hb : Below w.heap.size w w') : Vl xs v w' := by
  obtain ⟨ao, cap, h1, h3⟩ := h
  refine ⟨ao, cap, h1, fun h0 => ?_⟩
  obtain ⟨g, off, h4, h5, h6⟩ := h3 h0
  exact ⟨g, off, h4, Nat.lt_of_lt_of_le h5 hb.size, fun j hj => (hb.cell (p := ⟨g, off + j, none⟩) h5).trans (h6 j hj)⟩
def Vls (xss : List (List Value)) (v : Value) (w : World) : Prop := ∃ (ao : Option Addr) (cap : Nat), v = .slice ao xss.length cap ∧ (0 < xss.length → ∃ g off, ao = some ⟨g, off, none⟩ ∧ g < w.heap.size ∧ ∀ i, i < xss.length → ∃ vi, w.cell? ⟨g, off + i, none⟩ = some vi ∧ Vl (xss.getD i []) vi w)
theorem Vls_below {xss : List (List Value)} {v : Value} {w w' : World} (h : Vls xss v w) (hb : Below w.heap.size w w') : Vls xss v w' := by
  obtain ⟨ao, cap, h1, h2⟩ := h
  refine ⟨ao, cap, h1, fun h0 => ?_⟩
  obtain ⟨g, off, h3, h4, h5⟩ := h2 h0
  refine ⟨g, off, h3, Nat.lt_of_lt_of_le h4 hb.size, fun i hi => ?_⟩
  obtain ⟨vi, h6, h7⟩ := h5 i hi
  exact ⟨vi, (hb.cell (p := ⟨g, off + i, none⟩) h4).trans h6, Vl_below h7 hb⟩
def prv (xss : List (List Value)) (k : Nat) : List Value := (xss.take k).flatten
theorem prv_succ (xss : List (List Value)) (k : Nat) (h : k < xss.length) : prv xss (k + 1) = prv xss k ++ xss.getD k [] := by
  unfold prv
  rw [List.take_succ_eq_append_getElem h, List.flatten_append]
  simp [h]
theorem prv_le (xss : List (List Value)) (k : Nat) : (prv xss k).length ≤ xss.flatten.length := by
  unfold prv
  conv => rhs; rw [← List.take_append_drop k xss, List.flatten_append, List.length_append]
  omega
theorem wpList_app2 {P : Program} {ops : Array Oper} {rest : List Oper} {o : Oper} {a : Act} {Q : Exit → Act → World → Prop} {s x : Operand} {t u : TypeId} {v v2 v' : Value} {w w' : World} (hgd : o.guard = none) (ho : o.op = .call { callee := .builtin .append, args := #[s, x], argTypes := #[t, u] }) (hs : a.eval s = v) (hx : a.eval x = v2)
    (hr : (Builtin.append_ #[t, u] o.type #[v, v2]).run P w = .ok v' w') (h : wpList P ops Q rest (a.put o.dst v') w') : wpList P ops Q (o :: rest) a w := by
  refine wpList_plain hgd fun _ hK => ?_
  unfold Oper.wp execOp
  simp only [ho, resolve, invoke, builtin, Sem.run_bind, Sem.run_pure, Result.andThen_ok, List.map_toArray, List.map_cons, List.map_nil, hs, hx, hr]
  exact hK _ _ h
theorem info_b : (Try.prog.info? 5).map (fun i => (i.zero, i.size, i.bytes)) = some (some (.int .u8 0), 1, 1) := by kernel_rfl
theorem appv_b {base : Nat} {xs ys : List Value} {v vb : Value} {w : World} (ty : TypeId) (h : w.ownsRow base 5 1 v xs.length xs) (hb : Vl ys vb w) (h1 : ∀ u ∈ ys, u.oneCell' = true) (hbase : base ≤ w.heap.size) (hlen : xs.length + ys.length ≤ 4194304) :
    ∃ v' w', (Builtin.append_ #[22, 22] ty #[v, vb]).run Try.prog w = .ok v' w' ∧ w'.ownsRow base 5 1 v' (xs ++ ys).length (xs ++ ys) ∧ Below base w w' := by
  obtain ⟨i0, hi, hz0, hz1, hz2⟩ := info_parts info_b
  obtain ⟨ao, cap, rfl, vw⟩ := hb
  by_cases h0 : 0 < ys.length
  · obtain ⟨g, off, rfl, hg, hc⟩ := vw h0
    obtain ⟨v', w', hr, ho, hgr, _⟩ := run_append_own (P := Try.prog) w base 22 ty 5 i0 (.int .u8 0) 1 1 Try.underlying22 hi hz0 hz1 hz2 rfl (by decide) v xs.length xs h ⟨g, off, none⟩ ys.length cap ys (by rw [Nat.mul_one])
      (fun j u hj => by
        have hj' : j < ys.length := (List.getElem?_eq_some_iff.1 hj).1
        rw [add_lit, hc j hj', hj]) h1 (by unfold maxLen; omega) (by omega) hbase
    refine ⟨v', w', hr, by rw [List.length_append]; exact ho, (Below.refl _ _).grown hgr hbase (fun k hk => (own_lo h k hk).1)⟩
  · have e : ys = [] := List.length_eq_zero_iff.1 (by omega)
    subst e
    rw [List.append_nil]
    refine ⟨v, w, ?_, h, Below.refl _ _⟩
    have hs : Src Try.prog i0.size 22 (.slice ao 0 cap) 0 [] w := by
      cases ao with
      | none => exact Src.ofNil w Try.underlying22 cap
      | some ad => exact Src.ofSlice w Try.underlying22 ad 0 cap [] (by simp) (fun j u hj => by simp at hj) (fun u hu => by cases hu)
    rcases h.2 with ⟨h3, h4⟩ | ⟨g', cap', cur, h3, h5⟩
    · subst h3
      exact run_append_nothing w 22 22 ty 5 i0 Try.underlying22 hi none 0 0 (Nat.le_refl _) _ hs
    · subst h3
      exact run_append_nothing w 22 22 ty 5 i0 Try.underlying22 hi _ _ _ h5.2.2.1 _ hs
set_option maxHeartbeats 400000 in
set_option maxRecDepth 100000 in
theorem grow_b (n : Nat) (hn : Hid (n ≤ 4194304)) (w : World) :
    Calls Try.prog 70 #[.slice none 0 0, .int .i64 (n : Int)] w fun e w' => ∃ v, e = .returned v ∧ w'.ownsRow w.heap.size 5 1 v 0 [] ∧ Below w.heap.size w w' := by
  have hww : wrap64 (n : Int) = n := by have := hn.out; unfold wrap64; omega
  have hn0 : decide ((n : Int) < 0) = false := decide_eq_false (by omega)
  by_cases h0 : n = 0
  · subst h0
    go_enter Try.func70, Try.ntmps70
    go_wp2
    go_ret
    exact ⟨_, rfl, World.ownsRow_nil _ _ _ _, Below.refl _ _⟩
  · obtain ⟨i0, hi, hz0, hz1, hz2⟩ := info_parts info_b
    have hap := Lib.run_append_nil_zeros (P := Try.prog) w 22 3 22 5 i0 (.int .u8 0) .i64 .i64 Try.underlying22 Try.underlying3 hi hz0 n (by omega) (by omega) (by have := hn.out; omega) (by have := hn.out; rw [hz2]; omega)
    have hge := grownCap_ge w n 0 5
    have hle := grownCap_le_maxLen w n 0 5 (by have := hn.out; unfold maxLen; omega)
    generalize grownCap w n 0 5 = C at hap hge hle
    have hsz : (Builtin.zeroCells (.int .u8 0 : Value).cells n ++ Builtin.zeroCells (.int .u8 0 : Value).cells (C - n)).size = C := by
      have hz : (.int .u8 0 : Value).cells.size = 1 := rfl
      simp only [Array.size_append, size_zeroCells, hz, Nat.mul_one]
      omega
    have HO : Hid ((w.drew.alloc (.cells (Builtin.zeroCells (.int .u8 0 : Value).cells n ++ Builtin.zeroCells (.int .u8 0 : Value).cells (C - n)) 5)).ownsRow w.heap.size 5 1 (.slice (some ⟨w.heap.size, 0, none⟩) 0 C) 0 []) := ⟨rfl, .inr ⟨w.heap.size, C, _, rfl, Nat.le_refl _, heap_alloc_new w.drew _, Nat.zero_le _, hle, by rw [hsz, Nat.mul_one], by rw [Nat.zero_mul]; rfl⟩⟩
    have HB : Hid (Below w.heap.size w (w.drew.alloc (.cells (Builtin.zeroCells (.int .u8 0 : Value).cells n ++ Builtin.zeroCells (.int .u8 0 : Value).cells (C - n)) 5))) := (Below.refl _ _).drew.alloc (Nat.le_refl _) _
    generalize w.drew.alloc (.cells (Builtin.zeroCells (.int .u8 0 : Value).cells n ++ Builtin.zeroCells (.int .u8 0 : Value).cells (C - n)) 5) = W1 at hap HO HB
    have p0 : (0 : Int) < (n : Int) := by omega
    have p1 : (n : Int) ≤ (C : Int) := by omega
    clear hsz hi hz0 hz1 hz2 hle
    go_enter Try.func70, Try.ntmps70
    go_upto_region 5 with fail
    simp only [hww]
    go_wp2_with (at_builtin; refine wpList_app2 rfl rfl rfl rfl hap ?_)
    go_ret
    exact ⟨_, rfl, HO.out, HB.out⟩
set_option maxHeartbeats 2000000 in
set_option maxRecDepth 100000 in
theorem concat_b (xss : List (List Value)) (v : Value) (w : World) (hx : Hid (xss.flatten.length ≤ 1048576)) (hn : Hid (xss.length ≤ 1048576)) (h1 : Hid (∀ xs ∈ xss, ∀ u ∈ xs, u.oneCell' = true)) (h : Vls xss v w) :
    Calls Try.prog 64 #[v] w fun e w' => ∃ v', e = .returned v' ∧ w'.ownsRow w.heap.size 5 1 v' xss.flatten.length xss.flatten ∧ Below w.heap.size w w' := by
  have HL : Hid (Vls xss v w) := h
  obtain ⟨ao, cap, rfl, hL⟩ := h
  clear hL
  obtain ⟨n, en⟩ : ∃ n, n = xss.length := ⟨_, rfl⟩
  rw [← en] at HL hn ⊢
  have EN : Hid (n = xss.length) := en
  clear en
  have HE : Hid (prv xss n = xss.flatten) := by
    show _ = _
    unfold prv
    rw [EN.out, List.take_length]
  have KG : Hid (∀ w : World, Calls Try.prog 70 #[.slice none 0 0, .int .i64 ((prv xss n).length : Int)] w fun e w' => ∃ v, e = .returned v ∧ w'.ownsRow w.heap.size 5 1 v 0 [] ∧ Below w.heap.size w w') := fun w => grow_b _ (by have := prv_le xss n; have := hx.out; show _ ≤ _; omega) w
  go_enter Try.func64, Try.ntmps64
  go_wp2_with fail
  go_loopw [3, 11] (fun sz i wr => ∃ k : Nat, k ≤ n ∧ i = .int .i64 (k : Int) ∧ sz = .int .i64 ((prv xss k).length : Int) ∧ w = wr) (fun _ i _ => ((n : Int) - intOf i).toNat)
  case atStart => exact ⟨0, Nat.zero_le _, rfl, rfl, rfl⟩
  case round =>
    obtain ⟨k, hk, rfl, rfl, rfl⟩ := hrel
    by_cases hlt : k < n
    · have en := EN.out
      obtain ⟨ao2, cap2, e2, hL2⟩ := HL.out
      obtain ⟨gp, op, hao, hgp, hcell⟩ := hL2 (by omega)
      obtain ⟨vi, c1, hvl⟩ := hcell k (by omega)
      have hao2 : ao = some ⟨gp, op, none⟩ := by
        rw [← hao]
        injection e2
      subst hao2
      obtain ⟨ai, ci, rfl, _⟩ := hvl
      have hsum : (prv xss (k + 1)).length = (prv xss k).length + (xss.getD k []).length := by rw [prv_succ xss k (by omega), List.length_append]
      have hpl := prv_le xss (k + 1)
      have hx2 := hx.out
      have hw1 : Hid (wrap64 (((prv xss k).length : Int) + ((xss.getD k []).length : Int)) = ((prv xss (k + 1)).length : Int)) := by show _ = _; unfold wrap64; omega
      have hw := step_w k n hlt hn
      have d0 : (k : Int) < (n : Int) := by omega
      have d1 : (0 : Int) ≤ (k : Int) := by omega
      have d2 : decide (((prv xss (k + 1)).length : Int) < 0) = false := decide_eq_false (by omega)
      clear hsum hpl hx2 hcell hL2 e2 hao en hgp
      generalize (xss.getD k []).length = li at *
      obtain ⟨s2, e3⟩ : ∃ s2, s2 = (prv xss (k + 1)).length := ⟨_, rfl⟩
      rw [← e3] at hw1 d2
      have HS2 : Hid (s2 = (prv xss (k + 1)).length) := e3
      clear e3
      generalize (prv xss k).length = s1 at *
      have hw2 := hw1.out
      go_wp2_with fail
      go_roundw
      case rel => first | exact ⟨k + 1, hlt, step_v k _ hw.out, (by rw [← HS2.out]; first | rfl | rw [hw1.out]), trivial⟩ | exact ⟨k + 1, hlt, step_v k _ hw.out, (by rw [← HS2.out]; first | rfl | rw [hw1.out]), rfl⟩ | ((repeat apply Exists.intro); exact ⟨⟨k + 1, hlt, step_v k _ hw.out, (by rw [← HS2.out]; first | rfl | rw [hw1.out]), rfl⟩, rfl⟩)
      case measure => exact msr k n hlt _ hw.out
    · have ek : k = n := by omega
      subst ek
      have d0 : decide ((k : Int) < (k : Int)) = false := decide_eq_false (by omega)
      go_wp2_with fail
      refine (KG.out _).mono (fun e w2 he => ?_)
      obtain ⟨v2, rfl, o2, b2⟩ := he
      clear d0 KG
      go_wp2_with fail
      go_loopw [6, 27] (fun vn i wr => ∃ j : Nat, j ≤ k ∧ i = .int .i64 (j : Int) ∧ wr.ownsRow w.heap.size 5 1 vn (prv xss j).length (prv xss j) ∧ Below w.heap.size w wr) (fun _ i _ => ((k : Int) - intOf i).toNat)
      case atStart => exact ⟨0, Nat.zero_le _, rfl, o2, b2⟩
      case round =>
        clear o2 b2
        obtain ⟨j, hj, rfl, oj, bj⟩ := hrel
        by_cases hlt2 : j < k
        · have en := EN.out
          obtain ⟨ao2, cap2, e2, hL2⟩ := Vls_below HL.out bj
          obtain ⟨gp, op, hao, hgp, hcell⟩ := hL2 (by omega)
          obtain ⟨vi, c1, hvl⟩ := hcell j (by omega)
          have hao2 : ao = some ⟨gp, op, none⟩ := by
            rw [← hao]
            injection e2
          subst hao2
          have hs1 := prv_succ xss j (by omega)
          have hpl := prv_le xss (j + 1)
          rw [hs1, List.length_append] at hpl
          obtain ⟨v3, w3, hap, o3, b3⟩ := appv_b 22 oj hvl (fun u hu => h1.out (xss.getD j []) (by
            rw [List.getD_eq_getElem?_getD, List.getElem?_eq_getElem (by omega)]
            exact List.getElem_mem _) u hu) bj.size (by have := hx.out; omega)
          rw [← hs1] at o3
          have HO : Hid (w3.ownsRow w.heap.size 5 1 v3 (prv xss (j + 1)).length (prv xss (j + 1))) := o3
          have HB : Hid (Below w.heap.size w w3) := bj.trans b3
          have hw := step_w j k hlt2 hn
          have d0 : (j : Int) < (k : Int) := by omega
          have d1 : (0 : Int) ≤ (j : Int) := by omega
          clear hs1 hpl hcell hL2 e2 hao en hgp hvl o3 b3 oj bj
          go_wp2_with (at_builtin; refine wpl_ap rfl rfl rfl rfl hap ?_)
          go_roundw
          case rel => exact ⟨j + 1, hlt2, step_v j _ hw.out, HO.out, HB.out⟩
          case measure => exact msr j k hlt2 _ hw.out
        · have ej : j = k := by omega
          subst ej
          have HO : Hid (wr.ownsRow w.heap.size 5 1 u6 (prv xss j).length (prv xss j)) := oj
          have HB : Hid (Below w.heap.size w wr) := bj
          have d0 : decide ((j : Int) < (j : Int)) = false := decide_eq_false (by omega)
          clear oj bj
          go_wp2
          go_ret
          exact ⟨_, rfl, by have := HO.out; rw [HE.out] at this; exact this, HB.out⟩
theorem concat2 {S T : Nat → Prop} {p q : List UInt8} {g : Nat} {u v : Value} {w : World} (hp : Tr.Bs S p u w) (hq : Tr.Bs T q v w) (hg : g < w.heap.size) (c0 : w.cell? ⟨g, 0, none⟩ = some u) (c1 : w.cell? ⟨g, 1, none⟩ = some v) (hl : p.length + q.length ≤ 1048576) :
    Calls Try.prog 64 #[.slice (some ⟨g, 0, none⟩) 2 2] w fun e w' => ∃ x, e = .returned x ∧ Tr.Bs (fun k => w.heap.size ≤ k ∧ ¬ Tr.Fb w' k) (p ++ q) x w' ∧ Below w.heap.size w w' := by
  have vl : ∀ {S : Nat → Prop} {b : List UInt8} {x : Value}, Tr.Bs S b x w → Vl (Pk.bcs b) x w := fun {S b x} h => by
    obtain ⟨ao, cap, rfl, _, h3⟩ := h
    refine ⟨ao, cap, by rw [Pk.bcs_len], fun h0 => ?_⟩
    rw [Pk.bcs_len] at h0
    obtain ⟨k, off, rfl, _, hlt, hc⟩ := h3 h0
    refine ⟨k, off, rfl, hlt, fun j hj => ?_⟩
    rw [Pk.bcs_len] at hj
    rw [hc j hj]
    unfold Pk.bcs Sp.bz
    simp [hj]
  have one : ∀ (b : List UInt8), ∀ x ∈ Pk.bcs b, x.oneCell' = true := fun b x hx => by
    unfold Pk.bcs at hx
    obtain ⟨c, _, rfl⟩ := List.mem_map.1 hx
    rfl
  have e2 : [Pk.bcs p, Pk.bcs q].flatten = Pk.bcs (p ++ q) := by rw [Pk.bcs_app]; simp
  refine (concat_b [Pk.bcs p, Pk.bcs q] _ w (show _ ≤ _ by rw [e2, Pk.bcs_len, List.length_append]; exact hl) (show _ ≤ _ by simp) (show ∀ xs ∈ _, _ from fun xs hxs => ?_) ⟨_, _, rfl, fun _ => ⟨g, 0, rfl, hg, fun i hi => ?_⟩⟩).mono fun e w' he => ?_
  · rcases List.mem_cons.1 hxs with rfl | hxs
    · exact one p
    · rcases List.mem_cons.1 hxs with rfl | hxs
      · exact one q
      · cases hxs
  · have hi2 : i = 0 ∨ i = 1 := by simp at hi; omega
    rcases hi2 with rfl | rfl
    · exact ⟨u, c0, vl hp⟩
    · exact ⟨v, c1, vl hq⟩
  · obtain ⟨x, h1, h2, h3⟩ := he
    rw [e2, Pk.bcs_len] at h2
    exact ⟨x, h1, Tr.own_bs h2, h3⟩
end Ct
end Go.Proofs.Ythlgneadcagleaa
namespace Go.Proofs.Ythlgneadcagleaa
namespace Tr
open Nb Go.RowKit
theorem info16 : (Try.prog.info? 96).map (·.size) = some 16 := by kernel_rfl
theorem cell_fork {w : World} {g : Nat} {c : Array Value} {ty : TypeId} {fz : Nat × Nat} (hb : w.heap[g]? = some (.cells c ty fz)) (j : Nat) (hj : j < c.size) : w.cell? ⟨g, j, none⟩ = some (c.getD j undef) := by
  simp only [World.cell?, hb]
  simp [hj]
theorem range16 {w : World} {g : Nat} {c : Array Value} {ty : TypeId} {fz : Nat × Nat} (hb : w.heap[g]? = some (.cells c ty fz)) (hc : c.size = 17) : w.rangeAt g 1 (c.toList.drop 1) := fun j v hv => by
  have hj : j < 16 := by
    have := (List.getElem?_eq_some_iff.1 hv).1
    simpa [hc] using this
  rw [cell_fork hb (1 + j) (by omega)]
  rw [List.getElem?_drop] at hv
  rw [← hv]
  have h1 : 1 + j < c.size := by omega
  simp [h1]
theorem run_index16 (L : List Value) (k : Nat) (x : Value) (hk : k < 16) (hx : L[k]? = some x) (w : World) : (Instr.index 96 (.agg L.toArray) (.int .i64 (k : Int))).run Try.prog w = .ok x w := by
  have h1 : ((k : Int).toNat * 1) = k := by omega
  have h2 : (0 : Int) ≤ (k : Int) ∧ (k : Int) < ((16 : Nat) : Int) := by omega
  unfold Instr.index
  simp only [Sem.run_bind, run_under Try.underlying96, asIntOf, Sem.run_pure, Result.andThen_ok]
  rw [if_pos h2]
  simp only [Sem.run_bind, Try.sizeOf44, Result.andThen_ok, h1, part, Try.isAgg44]
  have h3 : L.toArray[k]? = some x := by simpa using hx
  simp [h3]
theorem cnt_take (ks : List Nd) (k : Nat) (h : k < ks.length) : cnt (ks.take (k + 1)) = cnt (ks.take k) + (if (ks.getD k Nd.no).kind = 0 then 0 else 1) := by
  induction ks generalizing k with
  | nil => simp at h
  | cons t r ih =>
    cases k with
    | zero => simp [cnt]
    | succ k =>
      rw [List.take_succ_cons, List.take_succ_cons, cnt, cnt, List.getD_cons_succ, ih k (by simpa using h)]
      omega
theorem cnt_le : ∀ ks : List Nd, cnt ks ≤ ks.length
  | [] => Nat.le_refl _
  | t :: r => by
    have := cnt_le r
    rw [cnt, List.length_cons]
    split <;> omega
set_option maxHeartbeats 1000000 in
set_option maxRecDepth 100000 in
theorem parts_any (v : By) (ks : List Nd) (g : Nat) (c : Array Value) (w : World) (ao : Option Addr) (cap : Nat) (hl : ks.length = 16) (hb : w.heap[g]? = some (.cells c 98 (0, 0))) (hc : c.size = 17) (hv : c.getD 0 undef = .slice ao v.length cap)
    (hN : Hid (∀ j, j < 16 → ∀ w2 : World, Calls Try.prog 65 #[c.getD (j + 1) undef] w2 fun e w' => e = .returned (.bool (decide ((ks.getD j Nd.no).kind = 0))) ∧ Below w2.heap.size w2 w')) :
    Calls Try.prog 59 #[.pointer (some ⟨g, 0, none⟩)] w fun e w' => e = .returned (.int .i64 (pts v ks : Nat)) ∧ Below w.heap.size w w' := by
  have c0 : w.cell? ⟨g, 0, none⟩ = some (.slice ao v.length cap) := by rw [cell_fork hb 0 (by omega), hv]
  have R := range16 hb hc
  have RL : (Try.prog.info? 96).map (·.size) = some (c.toList.drop 1).length := by rw [info16]; simp [hc]
  have HX : Hid (∀ (j : Nat) (w : World), j < 16 → (Instr.index 96 (.agg (c.toList.drop 1).toArray) (.int .i64 (j : Int))).run Try.prog w = .ok (c.getD (j + 1) undef) w) := fun j w hj => run_index16 _ j _ hj (by
    have h1 : j + 1 < c.size := by omega
    rw [List.getElem?_drop, Nat.add_comm]
    simp [h1]) w
  generalize c.toList.drop 1 = L at R RL HX
  obtain ⟨n0, hn0⟩ : ∃ n0 : Nat, n0 = if v = [] then 0 else 1 := ⟨_, rfl⟩
  have hpt : Hid (pts v ks = n0 + cnt (ks.take 16)) := by
    show _ = _
    rw [← hl, List.take_length, hn0]
    rfl
  have hn1 : Hid (n0 ≤ 1) := by show _ ≤ _; rw [hn0]; split <;> omega
  have hvn : v.length = 0 ↔ v = [] := List.length_eq_zero_iff
  generalize v.length = n at *
  by_cases h0 : n = 0
  · have e0 : n0 = 0 := by rw [hn0, if_pos (hvn.1 h0)]
    have d0 : decide ((0 : Int) < (n : Int)) = false := decide_eq_false (by omega)
    have d0' : decide (0 < n) = false := decide_eq_false (by omega)
    have E0 : Hid (n0 = 0) := e0
    clear hn0 hvn hb hv e0
    go_enter Try.func59, Try.ntmps59
    go_upto_region 4 with fail
    go_wp2_with (refine wpList_load_mid rfl 96 (.tmp 16) rfl g 1 rfl L _ R Try.underlying96 rfl RL ?_)
    clear R RL c0
    go_loopw [3, 18] (fun m i wr => ∃ k : Nat, k ≤ 16 ∧ i = .int .i64 (k : Int) ∧ m = .int .i64 ((n0 + cnt (ks.take k) : Nat) : Int) ∧ Below w.heap.size w wr) (fun _ i _ => ((16 : Int) - intOf i).toNat)
    case atStart => exact ⟨0, Nat.zero_le _, rfl, by rw [E0.out]; simp [cnt], Below.refl _ _⟩
    case round =>
      obtain ⟨k, hk, rfl, rfl, hB⟩ := hrel
      by_cases hlt : k < 16
      · have d1 : decide ((k : Int) < 16) = true := decide_eq_true (by omega)
        have d2 : (0 : Int) ≤ (k : Int) := by omega
        have d3 : (k : Int) < 16 := by omega
        have hx := fun w => HX.out k w hlt
        have HS : Hid (cnt (ks.take (k + 1)) = cnt (ks.take k) + (if (ks.getD k Nd.no).kind = 0 then 0 else 1)) := cnt_take ks k (by omega)
        have hcl : Hid (cnt (ks.take k) ≤ 16) := by have := cnt_le (ks.take k); rw [List.length_take] at this; show _ ≤ _; omega
        have HK := hN.out k hlt
        generalize c.getD (k + 1) undef = xk at *
        have e5 : wrap64 ((k : Int) + 1) = ((k + 1 : Nat) : Int) := by unfold wrap64; omega
        have E5 : Hid (wrap64 ((k : Int) + 1) = ((k + 1 : Nat) : Int)) := e5
        clear e5
        generalize cnt (ks.take k) = m at *
        have E6 : Hid (wrap64 ((n0 : Int) + (m : Int) + 1) = ((n0 + (m + 1) : Nat) : Int)) := by have := hcl.out; have := hn1.out; show _ = _; unfold wrap64; omega
        by_cases hkd : (ks.getD k Nd.no).kind = 0
        · have HKd : Hid ((ks.getD k Nd.no).kind = 0) := hkd
          have HK2 : Hid (∀ w2 : World, Calls Try.prog 65 #[xk] w2 fun e w' => e = .returned (.bool true) ∧ Below w2.heap.size w2 w') := fun w2 => (HK w2).mono (fun e w' h => ⟨by rw [h.1, decide_eq_true hkd], h.2⟩)
          clear HK hkd
          go_wp2_with fail
          refine (HK2.out _).mono ?_
          rintro e w1 ⟨rfl, hb1⟩
          go_wp2_with fail
          exact ⟨⟨k + 1, hlt, by rw [Int.natCast_succ], by rw [HS.out, if_pos HKd.out, Nat.add_zero, Int.natCast_add], hB.trans (hb1.mono hB.size)⟩, by simp only [intOf]; omega⟩
        · have HKd : Hid (¬ (ks.getD k Nd.no).kind = 0) := hkd
          have HK2 : Hid (∀ w2 : World, Calls Try.prog 65 #[xk] w2 fun e w' => e = .returned (.bool false) ∧ Below w2.heap.size w2 w') := fun w2 => (HK w2).mono (fun e w' h => ⟨by rw [h.1, decide_eq_false hkd], h.2⟩)
          clear HK hkd
          go_wp2_with fail
          refine (HK2.out _).mono ?_
          rintro e w1 ⟨rfl, hb1⟩
          go_wp2_with fail
          rw [E6.out]
          exact ⟨⟨k + 1, hlt, by rw [Int.natCast_succ], by rw [HS.out, if_neg HKd.out], hB.trans (hb1.mono hB.size)⟩, by simp only [intOf]; omega⟩
      · have d1 : decide ((k : Int) < 16) = false := decide_eq_false (by omega)
        have ek : k = 16 := by omega
        have HE : Hid (pts v ks = n0 + cnt (ks.take k)) := by rw [ek]; exact hpt.out
        clear ek
        go_wp2_with fail
        go_ret
        exact ⟨by rw [HE.out, Int.natCast_add]; rfl, hB⟩
  · have e0 : n0 = 1 := by rw [hn0, if_neg (fun h => h0 (hvn.2 h))]
    have d0 : decide ((0 : Int) < (n : Int)) = true := decide_eq_true (by omega)
    have d0' : decide (0 < n) = true := decide_eq_true (by omega)
    have E0 : Hid (n0 = 1) := e0
    clear hn0 hvn hb hv e0
    go_enter Try.func59, Try.ntmps59
    go_upto_region 4 with fail
    go_wp2_with (refine wpList_load_mid rfl 96 (.tmp 16) rfl g 1 rfl L _ R Try.underlying96 rfl RL ?_)
    clear R RL c0
    go_loopw [3, 18] (fun m i wr => ∃ k : Nat, k ≤ 16 ∧ i = .int .i64 (k : Int) ∧ m = .int .i64 ((n0 + cnt (ks.take k) : Nat) : Int) ∧ Below w.heap.size w wr) (fun _ i _ => ((16 : Int) - intOf i).toNat)
    case atStart => exact ⟨0, Nat.zero_le _, rfl, by rw [E0.out]; simp [cnt], Below.refl _ _⟩
    case round =>
      obtain ⟨k, hk, rfl, rfl, hB⟩ := hrel
      by_cases hlt : k < 16
      · have d1 : decide ((k : Int) < 16) = true := decide_eq_true (by omega)
        have d2 : (0 : Int) ≤ (k : Int) := by omega
        have d3 : (k : Int) < 16 := by omega
        have hx := fun w => HX.out k w hlt
        have HS : Hid (cnt (ks.take (k + 1)) = cnt (ks.take k) + (if (ks.getD k Nd.no).kind = 0 then 0 else 1)) := cnt_take ks k (by omega)
        have hcl : Hid (cnt (ks.take k) ≤ 16) := by have := cnt_le (ks.take k); rw [List.length_take] at this; show _ ≤ _; omega
        have HK := hN.out k hlt
        generalize c.getD (k + 1) undef = xk at *
        have e5 : wrap64 ((k : Int) + 1) = ((k + 1 : Nat) : Int) := by unfold wrap64; omega
        have E5 : Hid (wrap64 ((k : Int) + 1) = ((k + 1 : Nat) : Int)) := e5
        clear e5
        generalize cnt (ks.take k) = m at *
        have E6 : Hid (wrap64 ((n0 : Int) + (m : Int) + 1) = ((n0 + (m + 1) : Nat) : Int)) := by have := hcl.out; have := hn1.out; show _ = _; unfold wrap64; omega
        by_cases hkd : (ks.getD k Nd.no).kind = 0
        · have HKd : Hid ((ks.getD k Nd.no).kind = 0) := hkd
          have HK2 : Hid (∀ w2 : World, Calls Try.prog 65 #[xk] w2 fun e w' => e = .returned (.bool true) ∧ Below w2.heap.size w2 w') := fun w2 => (HK w2).mono (fun e w' h => ⟨by rw [h.1, decide_eq_true hkd], h.2⟩)
          clear HK hkd
          go_wp2_with fail
          refine (HK2.out _).mono ?_
          rintro e w1 ⟨rfl, hb1⟩
          go_wp2_with fail
          exact ⟨⟨k + 1, hlt, by rw [Int.natCast_succ], by rw [HS.out, if_pos HKd.out, Nat.add_zero, Int.natCast_add], hB.trans (hb1.mono hB.size)⟩, by simp only [intOf]; omega⟩
        · have HKd : Hid (¬ (ks.getD k Nd.no).kind = 0) := hkd
          have HK2 : Hid (∀ w2 : World, Calls Try.prog 65 #[xk] w2 fun e w' => e = .returned (.bool false) ∧ Below w2.heap.size w2 w') := fun w2 => (HK w2).mono (fun e w' h => ⟨by rw [h.1, decide_eq_false hkd], h.2⟩)
          clear HK hkd
          go_wp2_with fail
          refine (HK2.out _).mono ?_
          rintro e w1 ⟨rfl, hb1⟩
          go_wp2_with fail
          rw [E6.out]
          exact ⟨⟨k + 1, hlt, by rw [Int.natCast_succ], by rw [HS.out, if_neg HKd.out], hB.trans (hb1.mono hB.size)⟩, by simp only [intOf]; omega⟩
      · have d1 : decide ((k : Int) < 16) = false := decide_eq_false (by omega)
        have ek : k = 16 := by omega
        have HE : Hid (pts v ks = n0 + cnt (ks.take k)) := by rw [ek]; exact hpt.out
        clear ek
        go_wp2_with fail
        go_ret
        exact ⟨by rw [HE.out, Int.natCast_add]; rfl, hB⟩
end Tr
end Go.Proofs.Ythlgneadcagleaa
namespace Go.Proofs.Ythlgneadcagleaa
namespace Nb
open Go.RowKit
def fil (F : Nat → Int) (k m : Nat) : List Value := (List.range m).map fun j => .int .u8 (if j < k then F j else 0)
theorem fil_len (F : Nat → Int) (k m : Nat) : (fil F k m).length = m := by simp [fil]
theorem fil_0 (F : Nat → Int) (m : Nat) : fil F 0 m = List.replicate m (.int .u8 0) := by
  apply List.ext_getElem?
  intro j
  by_cases hj : j < m <;> simp [fil, hj]
theorem fil_at (F : Nat → Int) (k m t : Nat) (h : t < m) : (fil F k m)[t]? = some (.int .u8 (if t < k then F t else 0)) := by simp [fil, h]
theorem fil_step (F : Nat → Int) (k m : Nat) (h : k < m) : fil F (k + 1) m = (fil F k m).set k (.int .u8 (F k)) := by
  apply List.ext_getElem?
  intro j
  rw [List.getElem?_set]
  by_cases hj : j < m
  · rw [fil_at F (k + 1) m j hj]
    by_cases e : k = j
    · subst e
      rw [if_pos (by omega), if_pos rfl, if_pos (by rw [fil_len]; exact hj)]
    · rw [if_neg e, fil_at F k m j hj]
      by_cases a : j < k
      · rw [if_pos a, if_pos (by omega)]
      · rw [if_neg a, if_neg (by omega)]
  · rw [List.getElem?_eq_none (by rw [fil_len]; omega)]
    split
    · rw [if_neg (by rw [fil_len]; omega)]
    · rw [List.getElem?_eq_none (by rw [fil_len]; omega)]
theorem fil_full (l : List UInt8) : fil (Sp.bz l) l.length l.length = Pk.bcs l := by
  apply List.ext_getElem?
  intro j
  by_cases hj : j < l.length
  · rw [fil_at _ _ _ _ hj, if_pos hj]
    simp [Pk.bcs, hj, Sp.bz]
  · rw [List.getElem?_eq_none (by rw [fil_len]; omega), List.getElem?_eq_none (by rw [Pk.bcs_len]; omega)]
theorem made (m : Nat) (hm : Hid (m ≤ 4194304)) (w : World) : ∃ w', (Instr.makeSlice 22 (.int .i64 (m : Int)) (.int .i64 (m : Int))).run Try.prog w = .ok (.slice (some ⟨w.heap.size, 0, none⟩) m m) w' ∧ w'.heap.size = w.heap.size + 1 ∧ w'.ownsRow w.heap.size 5 1 (.slice (some ⟨w.heap.size, 0, none⟩) m m) m (List.replicate m (.int .u8 0)) ∧ Below w.heap.size w w' := by
  have hm := hm.out
  obtain ⟨i0, hi, hz0, hz1, hz2⟩ := info_parts Pk.Try.infoU8'
  have hr := run_make (P := Try.prog) w 22 5 i0 (.int .u8 0) Try.underlying22 hi hz0 .i64 .i64 (m : Int) (m : Int) (by omega) (Int.le_refl _) (by rw [hz2]; omega) (by omega)
  rw [Int.toNat_natCast, hz1, Nat.mul_one] at hr
  refine ⟨_, hr, by simp, ⟨by simp, .inr ⟨w.heap.size, m, madeCells (Value.int .u8 0).cells m, rfl, Nat.le_refl _, heap_alloc_new w _, Nat.le_refl _, by unfold maxLen; omega, by rw [size_madeCells, Nat.mul_one], ?_⟩⟩, (Below.refl _ _).alloc (Nat.le_refl _) _⟩
  rw [Nat.mul_one]
  apply List.ext_getElem?
  intro j
  rw [List.getElem?_take]
  by_cases hj : j < m
  · rw [if_pos hj]
    have hz : (Value.int .u8 0).cells = #[.int .u8 0] := rfl
    simp [madeCells, hz, hj, Nat.mod_one]
  · rw [if_neg hj, List.getElem?_eq_none (by simp; omega)]
def pb (p : List UInt8) : Bool := p.all fun c => decide (c.toNat < 16)
theorem pb_iff (p : List UInt8) : pb p = true ↔ Pt p := by simp [pb, Pt]
theorem pb_at (p : List UInt8) : pb p = true ↔ ∀ j, j < p.length → Sp.bz p j < 16 := by
  rw [pb_iff]
  unfold Pt Sp.bz
  constructor
  · intro h j hj
    have := h p[j] (List.getElem_mem hj)
    rw [List.getD_eq_getElem?_getD, List.getElem?_eq_getElem hj]
    simp only [Option.getD_some]
    omega
  · intro h c hc
    obtain ⟨j, hj, rfl⟩ := List.mem_iff_getElem.1 hc
    have := h j hj
    rw [List.getD_eq_getElem?_getD, List.getElem?_eq_getElem hj] at this
    simp only [Option.getD_some] at this
    omega
set_option maxHeartbeats 1000000 in
set_option maxRecDepth 100000 in
theorem ispath_any (p : List UInt8) (ap : Option Addr) (cp : Nat) (w : World) (hl : Hid ((p.length : Int) ≤ 140737488355328)) (hp : Sp.Vw p ap w) :
    Calls Try.prog 39 #[.slice ap p.length cp] w fun e w' => e = .returned (.bool (pb p)) ∧ w' = w := by
  have HP : Hid (Sp.Vw p ap w) := hp
  have H0 : Hid (pb p = true ↔ ∀ j, j < p.length → Sp.bz p j < 16) := pb_at p
  clear hp
  generalize pb p = B at *
  go_enter Try.func39, Try.ntmps39
  go_wp2_with fail
  go_loopw [7] (fun s wr => ∃ k : Nat, k ≤ p.length ∧ s = .int .i64 (k : Int) ∧ Hid (∀ j, j < k → Sp.bz p j < 16) ∧ w = wr) (fun s _ => ((p.length : Int) - intOf s).toNat)
  case atStart => exact ⟨0, Nat.zero_le _, rfl, fun j hj => absurd hj (Nat.not_lt_zero _), rfl⟩
  case round =>
    obtain ⟨k, hk, rfl, hA, rfl⟩ := hrel
    by_cases h1 : k < p.length
    · have d1 : decide ((k : Int) < (p.length : Int)) = true := decide_eq_true (by omega)
      obtain ⟨g, off, rfl, hg, hc⟩ := HP.out (by omega)
      have c0 := hc k h1
      have hw := stp k (by have := hl.out; show _ ≤ _; omega)
      by_cases e : Sp.bz p k < 16
      · have t1 : decide ((15 : Int) < Sp.bz p k) = false := decide_eq_false (by omega)
        have H1 : Hid (∀ j, j < k + 1 → Sp.bz p j < 16) := fun j hj => by
          by_cases e2 : j = k
          · subst e2; exact e
          · exact hA.out j (by omega)
        clear e hA hc
        generalize Sp.bz p k = X at *
        go_wp2_with fail
        have hw := hw.out
        go_roundw
        case rel => exact ⟨k + 1, h1, step_v k _ hw, H1, trivial⟩
        case measure => exact msr k p.length h1 _ hw
      · have t1 : decide ((15 : Int) < Sp.bz p k) = true := decide_eq_true (by omega)
        have H1 : Hid (B = false) := by
          show _ = _
          cases hB : B
          · rfl
          · exact absurd (H0.out.1 hB k h1) e
        clear e hA hc hw
        generalize Sp.bz p k = X at *
        go_wp2_with fail
        go_ret
        exact ⟨by rw [H1.out]; rfl, rfl⟩
    · have hkl : k = p.length := by omega
      subst hkl
      have H1 : Hid (B = true) := H0.out.2 hA.out
      clear hA
      go_wp2_with fail
      go_ret
      exact ⟨by rw [H1.out]; rfl, rfl⟩
end Nb
end Go.Proofs.Ythlgneadcagleaa
namespace Go.Proofs.Ythlgneadcagleaa
namespace RS
open RI
def upv (P : Program) (K : Value → World → Prop) : Result Next → Prop
  | .ok (.value v) w => K v w
  | .ok .skip w => K undef w
  | .ok (.enter f args) w => Calls P f args w fun e w' => ∃ v, e = .returned v ∧ K v w'
  | .ok (.row row args) w => Rows P row args w K
  | _ => False
@[simp] theorem upv_value (P : Program) (K : Value → World → Prop) (v : Value) (w : World) : upv P K (.ok (.value v) w) = K v w := rfl
@[simp] theorem upv_skip (P : Program) (K : Value → World → Prop) (w : World) : upv P K (.ok .skip w) = K undef w := rfl
@[simp] theorem upv_enter (P : Program) (K : Value → World → Prop) (f : FuncId) (args : Array Value) (w : World) : upv P K (.ok (.enter f args) w) = Calls P f args w fun e w' => ∃ v, e = .returned v ∧ K v w' := rfl
def Step (P : Program) (ops : Array Oper) (I : (Nat → Bool) → World → Prop) (i : Nat) (o : Oper) (v : Value) (a : Act) : Prop :=
  (Region.wanted o (yielded ops a.tmps) = true ∧ ∀ (K : Value → World → Prop) d w, I d w → may ops d i → (∀ w', I (don d i) w' → K v w') → upv P K ((execOp a.eval o).run P w)) ∨
  (Region.wanted o (yielded ops a.tmps) = false ∧ v = undef ∧ ∀ d w, I d w → may ops d i → I (don d i) w)
def Seq (P : Program) (ops : Array Oper) (I : (Nat → Bool) → World → Prop) (E : Act → Prop) : Nat → List Oper → Act → Prop
  | _, [], a => E a
  | i, o :: r, a => ∃ v, Step P ops I i o v a ∧ Seq P ops I E (i + 1) r (a.put o.dst v)
def bindsOn (o : Oper) (j : Nat) : Bool := o.after.any fun e => Region.binds .any e && e.on == j
def isSel : Op → Bool
  | .select _ _ => true
  | _ => false
def pairOk (ops : Array Oper) (i j : Nat) : Bool :=
  match ops[i]?, ops[j]? with
  | some x, some y =>
    match y.dst with
    | none => true
    | some t => (x.dst != some t || i == j) && (!(x.looksAt ops).contains t || (decide (j < i) && bindsOn x j) || (decide (i < j) && bindsOn y i))
  | _, _ => true
def okOps (ops : Array Oper) : Bool :=
  RI.early ops && (List.range ops.size).all fun i => ((ops[i]?).map fun o => !isSel o.op).getD true && (List.range ops.size).all fun j => pairOk ops i j
def fr (ops : Array Oper) (V : Nat → Value) (d : Nat → Bool) (a : Act) : Nat → Act
  | 0 => a
  | k + 1 => if d k then (fr ops V d a k).put ((ops[k]?).bind (·.dst)) (V k) else fr ops V d a k
def tt : Nat → Bool := fun _ => true
variable {P : Program} {ops : Array Oper} {Q : Exit → Act → World → Prop}
theorem put_get (a : Act) (x : Option Tmp) (v : Value) (t : Nat) : (a.put x v).tmps[t]? = if x = some t then (if t < a.tmps.size then some v else none) else a.tmps[t]? := by
  cases x with
  | none => simp [Act.put]
  | some d =>
    simp only [Act.put, Array.getElem?_setIfInBounds]
    by_cases e : d = t
    · subst e; simp
    · simp [e]
theorem get_size {a b : Act} {t : Nat} (h : a.tmps[t]? = b.tmps[t]?) : (t < a.tmps.size) = (t < b.tmps.size) := by
  apply propext
  have ha := Array.getElem?_eq_none_iff (xs := a.tmps) (i := t)
  have hb := Array.getElem?_eq_none_iff (xs := b.tmps) (i := t)
  rw [h] at ha
  have := ha.symm.trans hb
  omega
theorem fr_congr (V : Nat → Value) (a : Act) (d e : Nat → Bool) : ∀ k, (∀ j, j < k → d j = e j) → fr ops V d a k = fr ops V e a k
  | 0, _ => rfl
  | k + 1, h => by rw [fr, fr, fr_congr V a d e k (fun j hj => h j (by omega)), h k (by omega)]
theorem fr_get (V : Nat → Value) (a : Act) (d : Nat → Bool) (i t : Nat) : ∀ k, (∀ j, j < k → (ops[j]?).bind (·.dst) = some t → (j < i ∧ d j = true) ∨ (i < j ∧ d j = false)) → (fr ops V d a k).tmps[t]? = (fr ops V tt a (min k i)).tmps[t]?
  | 0, _ => by simp [fr]
  | k + 1, h => by
    have ih := fr_get V a d i t k (fun j hj => h j (by omega))
    have hk := h k (by omega)
    by_cases hi : k < i
    · rw [show min (k + 1) i = k + 1 by omega, fr, fr]
      rw [show min k i = k by omega] at ih
      simp only [tt, if_true]
      cases hd : d k with
      | true => simp only [if_true]; rw [put_get, put_get]; simp only [get_size ih, ih]
      | false =>
        simp only [Bool.false_eq_true, if_false]
        rw [put_get, ih]
        by_cases e : (ops[k]?).bind (·.dst) = some t
        · rcases hk e with ⟨_, h2⟩ | ⟨h1, _⟩
          · rw [hd] at h2; cases h2
          · omega
        · rw [if_neg e]
    · rw [show min (k + 1) i = i by omega, fr]
      rw [show min k i = i by omega] at ih
      cases hd : d k with
      | false => simp only [Bool.false_eq_true, if_false]; exact ih
      | true =>
        simp only [if_true]
        rw [put_get, ih]
        by_cases e : (ops[k]?).bind (·.dst) = some t
        · rcases hk e with ⟨h1, _⟩ | ⟨_, h2⟩
          · omega
          · rw [hd] at h2; cases h2
        · rw [if_neg e]
theorem fr_put (V : Nat → Value) (a : Act) (d : Nat → Bool) (i : Nat) (hd : d i = false) : ∀ k, (∀ j, j < k → j ≠ i → ∀ t, (ops[i]?).bind (·.dst) = some t → (ops[j]?).bind (·.dst) ≠ some t) →
    fr ops V (don d i) a k = if i < k then (fr ops V d a k).put ((ops[i]?).bind (·.dst)) (V i) else fr ops V d a k
  | 0, _ => by simp [fr]
  | k + 1, h => by
    have ih := fr_put V a d i hd k (fun j hj => h j (by omega))
    rw [fr, fr]
    by_cases e : k = i
    · subst e
      rw [don_same, hd, ih, if_neg (show ¬ k < k by omega), if_pos (show k < k + 1 by omega)]
      simp
    · rw [don_other _ _ _ e, ih]
      by_cases h1 : i < k
      · rw [if_pos h1, if_pos (show i < k + 1 by omega)]
        cases hk : d k with
        | false => simp
        | true =>
          simp only [if_true]
          exact Act.put_comm _ _ _ (fun t ht => h k (by omega) e t ht)
      · rw [if_neg h1, if_neg (show ¬ i < k + 1 by omega)]
theorem seq_vals {I : (Nat → Bool) → World → Prop} {E : Act → Prop} (a : Act) : ∀ (l : List Oper) (k : Nat) (V : Nat → Value), (∀ j, l[j]? = ops[k + j]?) → Seq P ops I E k l (fr ops V tt a k) →
    ∃ V', (∀ j, j < k → V' j = V j) ∧ (∀ j o, l[j]? = some o → Step P ops I (k + j) o (V' (k + j)) (fr ops V' tt a (k + j))) ∧ E (fr ops V' tt a (k + l.length))
  | [], k, V, _, h => ⟨V, fun _ _ => rfl, fun j o hj => by simp at hj, by simpa [Seq] using h⟩
  | o :: r, k, V, hl, h => by
    obtain ⟨v, h1, h2⟩ := h
    have hk : ops[k]? = some o := by simpa using (hl 0).symm
    have frV : ∀ V1 V2 : Nat → Value, ∀ n, (∀ j, j < n → V1 j = V2 j) → fr ops V1 tt a n = fr ops V2 tt a n := by
      intro V1 V2 n
      induction n with
      | zero => intro _; rfl
      | succ n ih => intro hv; rw [fr, fr, ih (fun j hj => hv j (by omega)), hv n (by omega)]
    let W : Nat → Value := fun j => if j = k then v else V j
    have hW : fr ops W tt a (k + 1) = (fr ops V tt a k).put o.dst v := by
      rw [fr, frV W V k (fun j hj => by simp only [W]; rw [if_neg (by omega)])]
      simp [tt, hk, W]
    rw [← hW] at h2
    obtain ⟨V', e1, e2, e3⟩ := seq_vals a r (k + 1) W (fun j => by have := hl (j + 1); rw [show k + (j + 1) = k + 1 + j by omega] at this; simpa using this) h2
    refine ⟨V', fun j hj => ?_, fun j o' hj => ?_, ?_⟩
    · rw [e1 j (by omega)]; simp only [W]; rw [if_neg (by omega)]
    · cases j with
      | zero =>
        have : o' = o := by simpa using hj.symm
        subst this
        rw [Nat.add_zero, e1 k (by omega), frV V' V k (fun j hj => by rw [e1 j (by omega)]; simp only [W]; rw [if_neg (by omega)])]
        simpa [W] using h1
      | succ j => rw [show k + (j + 1) = k + 1 + j by omega]; exact e2 j o' (by simpa using hj)
    · rw [show k + (o :: r).length = k + 1 + r.length by simp; omega]; exact e3
theorem upv_upon {o : Oper} {a : Act} {K : Act → World → Prop} : ∀ {r : Result Next}, upv P (fun v w => K (a.put o.dst v) w) r → o.upon P a K Q r
  | .ok (.value _) _, h => h
  | .ok .skip _, h => h
  | .ok (.enter _ _) _, h => Calls.mono h fun e w' he => by obtain ⟨v, rfl, hk⟩ := he; exact hk
  | .ok (.row _ _) _, h => h
  | .ok (.defer _) _, h => h.elim
  | .ok (.round ..) _, h => h.elim
  | .ok .recover _, h => h.elim
  | .ok (.spawn _) _, h => h.elim
  | .halt _ _, h => h.elim
theorem mem_looks {x : Oper} {t : Nat} (h : .tmp t ∈ x.op.operands) : t ∈ x.looksAt ops := List.mem_append_left _ (List.mem_filterMap.2 ⟨.tmp t, by simpa using h, rfl⟩)
theorem eval_get {a b : Act} {t : Nat} (h : a.tmps[t]? = b.tmps[t]?) : a.eval (.tmp t) = b.eval (.tmp t) := by simp only [Act.eval, Array.getD_eq_getD_getElem?, h]
theorem wanted_get {a b : Act} {o : Oper} (h : ∀ t, t ∈ o.looksAt ops → a.tmps[t]? = b.tmps[t]?) : Region.wanted o (yielded ops a.tmps) = Region.wanted o (yielded ops b.tmps) := by
  unfold Region.wanted
  cases hg : o.guard with
  | none => rfl
  | some gw =>
    obtain ⟨g, want⟩ := gw
    have : yielded ops a.tmps g = yielded ops b.tmps g := by
      unfold yielded
      cases ht : (ops[g]?).bind (·.dst) with
      | none => rfl
      | some t => simp only [Option.bind_some]; rw [h t (by simp [Oper.looksAt, hg, ht])]
    simp only [this]
theorem wp_region_seq {id : Nat} {a : Act} {w : World} (I : (Nat → Bool) → World → Prop) (hm : P.follows .mixedOrders = true) (hok : okOps ops = true) (h0 : I (fun _ => false) w.drew)
    (hs : Seq P ops I (fun a' => ∀ d w', I d w' → (∀ i, i < ops.size → d i = true) → Q .normal a' w') 0 ops.toList a) : (Code.region id ops true).wp P Q a w := by
  have hok' := hok
  unfold okOps at hok'
  rw [Bool.and_eq_true] at hok'
  obtain ⟨he, hp⟩ := hok'
  obtain ⟨V, _, hst, hE⟩ := seq_vals (P := P) (ops := ops) (I := I) a ops.toList 0 (fun _ => undef) (fun j => by simp) hs
  simp only [Nat.zero_add] at hst hE
  have pair : ∀ (i j : Nat) (x y : Oper) (t : Nat), ops[i]? = some x → ops[j]? = some y → y.dst = some t → (x.dst = some t → i = j) ∧ (t ∈ x.looksAt ops → (j < i ∧ bindsOn x j = true) ∨ (i < j ∧ bindsOn y i = true)) := by
    intro i j x y t hx hy ht
    have hi : i < ops.size := (Array.getElem?_eq_some_iff.1 hx).1
    have hj : j < ops.size := (Array.getElem?_eq_some_iff.1 hy).1
    have h1 := List.all_eq_true.1 hp i (List.mem_range.2 hi)
    rw [Bool.and_eq_true] at h1
    have h2 := List.all_eq_true.1 h1.2 j (List.mem_range.2 hj)
    unfold pairOk at h2
    simp only [hx, hy, ht] at h2
    simp at h2
    refine ⟨fun e => h2.1.resolve_left (fun h => h e), fun hm => ?_⟩
    rcases h2.2 with (h | h) | h
    · exact absurd hm h
    · exact .inl h
    · exact .inr h
  have nosel : ∀ (i : Nat) (x : Oper) cs b, ops[i]? = some x → x.op ≠ .select cs b := by
    intro i x cs b hx hc
    have hi : i < ops.size := (Array.getElem?_eq_some_iff.1 hx).1
    have h1 := List.all_eq_true.1 hp i (List.mem_range.2 hi)
    rw [Bool.and_eq_true, hx] at h1
    simp [hc, isSel] at h1
  have bon : ∀ {x : Oper} {j : Nat}, bindsOn x j = true → ∃ e, e ∈ x.after ∧ Region.binds .any e = true ∧ e.on = j := by
    intro x j h
    unfold bindsOn at h
    rw [Array.any_eq_true'] at h
    obtain ⟨e, h1, h2⟩ := h
    rw [Bool.and_eq_true, beq_iff_eq] at h2
    exact ⟨e, h1, h2.1, h2.2⟩
  refine wp_region_inv (fun d x wx => x = fr ops V d a ops.size ∧ I d wx ∧ ∀ j o, ops[j]? = some o → d j = true → ∀ e, e ∈ o.after → Region.binds .any e = true → d e.on = true) hm he ?_ ?_ ?_
  · refine ⟨?_, h0, fun _ _ _ h => by cases h⟩
    have : ∀ k, fr ops V (fun _ => false) a k = a := by
      intro k
      induction k with
      | zero => rfl
      | succ k ih => rw [fr, ih]; simp
    exact (this _).symm
  · rintro d x wx i ⟨rfl, hI, hcl⟩ hi hmay
    obtain ⟨o, ho⟩ : ∃ o, ops[i]? = some o := ⟨ops[i], Array.getElem?_eq_getElem hi⟩
    have hdeps : ∀ e, e ∈ o.after → Region.binds .any e = true → d e.on = true := by
      intro e h1 h2
      have := hmay.2 o ho
      rw [Array.all_eq_true_iff_forall_mem] at this
      have := this e h1
      rw [h2] at this
      simpa using this
    have hsame : ∀ t, t ∈ o.looksAt ops → (fr ops V d a ops.size).tmps[t]? = (fr ops V tt a i).tmps[t]? := by
      intro t ht
      have := fr_get (ops := ops) V a d i t ops.size (fun j hj hjt => by
        obtain ⟨y, hy⟩ : ∃ y, ops[j]? = some y := ⟨ops[j], Array.getElem?_eq_getElem hj⟩
        rw [hy] at hjt
        rcases (pair i j o y t ho hy hjt).2 ht with ⟨h1, h2⟩ | ⟨h1, h2⟩
        · obtain ⟨e, e1, e2, e3⟩ := bon h2
          exact .inl ⟨h1, e3 ▸ hdeps e e1 e2⟩
        · refine .inr ⟨h1, ?_⟩
          cases hdj : d j with
          | false => rfl
          | true =>
            obtain ⟨e, e1, e2, e3⟩ := bon h2
            have := hcl j y hy hdj e e1 e2
            rw [e3, hmay.1] at this; cases this)
      rw [this, show min ops.size i = i by omega]
    have hex : execOp (fr ops V d a ops.size).eval o = execOp (fr ops V tt a i).eval o := by
      refine execOp_congr o (fun cs b => nosel i o cs b ho) (fun x hx => ?_)
      cases x with
      | tmp t => exact eval_get (hsame t (mem_looks hx))
      | _ => rfl
    have hwa := wanted_get hsame
    have hput : ∀ v, v = V i → (fr ops V d a ops.size).put o.dst v = fr ops V (don d i) a ops.size := by
      rintro v rfl
      rw [fr_put V a d i hmay.1 ops.size (fun j hj hne t ht => fun hjt => ?_), if_pos hi, ho]
      · rfl
      · obtain ⟨y, hy⟩ : ∃ y, ops[j]? = some y := ⟨ops[j], Array.getElem?_eq_getElem hj⟩
        rw [hy] at hjt
        rw [ho] at ht
        exact hne ((pair i j o y t ho hy hjt).1 ht).symm
    have hclo : ∀ j o', ops[j]? = some o' → don d i j = true → ∀ e, e ∈ o'.after → Region.binds .any e = true → don d i e.on = true := by
      intro j o' hj hdj e e1 e2
      have : d e.on = true := by
        by_cases hji : j = i
        · subst hji
          rw [ho] at hj
          cases hj
          exact hdeps e e1 e2
        · rw [don_other _ _ _ hji] at hdj
          exact hcl j o' hj hdj e e1 e2
      unfold don; split
      · rfl
      · exact this
    unfold wpOp
    rw [ho]
    simp only
    rcases hst i o (by simpa using ho) with ⟨h1, h2⟩ | ⟨h1, h2, h3⟩
    · rw [hwa, h1, if_pos rfl]
      refine .inl ?_
      unfold Oper.wp
      rw [hex]
      exact upv_upon (h2 _ d wx hI hmay (fun w' hI' => ⟨hput _ rfl, hI', hclo⟩))
    · rw [hwa, h1]
      simp only [Bool.false_eq_true, if_false]
      exact ⟨hput _ h2.symm, h3 d wx hI hmay, hclo⟩
  · rintro d x wx ⟨rfl, hI, _⟩ hall
    rw [fr_congr V a d tt ops.size (fun j hj => hall j hj)]
    exact hE d wx hI hall
theorem go1 {S : World → Prop} {E : Act → Prop} {i : Nat} {o : Oper} {r : List Oper} {a a' : Act} {v : Value} (hg : o.guard = none)
    (h : ∀ (K : Value → World → Prop) w, S w → (∀ w', S w' → K v w') → upv P K ((execOp a.eval o).run P w)) (he : a.put o.dst v = a')
    (hr : Seq P ops (fun _ => S) E (i + 1) r a') : Seq P ops (fun _ => S) E i (o :: r) a :=
  ⟨v, .inl ⟨by simp [Region.wanted, hg], fun K _ w hS _ hK => h K w hS hK⟩, he ▸ hr⟩
theorem go1g {S : World → Prop} {E : Act → Prop} {i : Nat} {o : Oper} {r : List Oper} {a a' : Act} {v : Value} (hg : Region.wanted o (yielded ops a.tmps) = true)
    (h : ∀ (K : Value → World → Prop) w, S w → (∀ w', S w' → K v w') → upv P K ((execOp a.eval o).run P w)) (he : a.put o.dst v = a')
    (hr : Seq P ops (fun _ => S) E (i + 1) r a') : Seq P ops (fun _ => S) E i (o :: r) a :=
  ⟨v, .inl ⟨hg, fun K _ w hS _ hK => h K w hS hK⟩, he ▸ hr⟩
theorem go0 {S : World → Prop} {E : Act → Prop} {i : Nat} {o : Oper} {r : List Oper} {a a' : Act} (hg : Region.wanted o (yielded ops a.tmps) = false) (he : a.put o.dst undef = a')
    (hr : Seq P ops (fun _ => S) E (i + 1) r a') : Seq P ops (fun _ => S) E i (o :: r) a :=
  ⟨undef, .inr ⟨hg, rfl, fun _ _ h _ => h⟩, he ▸ hr⟩
theorem go_end {I : (Nat → Bool) → World → Prop} {E : Act → Prop} {i : Nat} {a : Act} (h : E a) : Seq P ops I E i [] a := h
end RS
end Go.Proofs.Ythlgneadcagleaa
namespace Go.Proofs.Ythlgneadcagleaa
open Go.RowKit
def U (x : Int) : Prop := 0 ≤ x ∧ x < 18446744073709551616
def val8 (F : Nat → Int) : Int := F 0 + F 1 * 18446744073709551616 + F 2 * 340282366920938463463374607431768211456 + F 3 * 6277101735386680763835789423207666416102355444464034512896 + F 4 * 115792089237316195423570985008687907853269984665640564039457584007913129639936 + F 5 * 2135987035920910082395021706169552114602704522356652769947041607822219725780640550022962086936576 + F 6 * 39402006196394479212279040100143613805079739270465446667948293404245721771497210611414266254884915640806627990306816 + F 7 * 726838724295606890549323807888004534353641360687318060281490199180639288113397923326191050713763565560762521606266177933534601628614656
def Mp (k : Nat) : Int := ((2 ^ (64 * k) : Nat) : Int)
def lowp (n k : Nat) : Int := ((n % 2 ^ (64 * k) : Nat) : Int)
def PI (a b i j : Nat) (F : Nat → Int) (c : Int) : Prop := (∀ o, U (F o)) ∧ U c ∧ (∀ o, i + 4 ≤ o → F o = 0) ∧ val8 F + c * Mp (i + j) = lowp a i * b + dg a i * lowp b j * Mp i
end Go.Proofs.Ythlgneadcagleaa
namespace Go.Proofs.Ythlgneadcagleaa
end Go.Proofs.Ythlgneadcagleaa
namespace Go.Proofs.Ythlgneadcagleaa
end Go.Proofs.Ythlgneadcagleaa
namespace Go.Proofs.Ythlgneadcagleaa
end Go.Proofs.Ythlgneadcagleaa
namespace Go.Proofs.Ythlgneadcagleaa
open Go.RowKit Go.Shelf
end Go.Proofs.Ythlgneadcagleaa
namespace Go.Proofs.Ythlgneadcagleaa
open Go.RowKit Go.Shelf
attribute [local go_sem ↓] Go.wp_at_zero Go.wp_at_succ

end Go.Proofs.Ythlgneadcagleaa
namespace Go.Proofs.Ythlgneadcagleaa
open Go.RowKit Go.Shelf
end Go.Proofs.Ythlgneadcagleaa
namespace Go.Proofs.Ythlgneadcagleaa
open Go.RowKit Go.Shelf
end Go.Proofs.Ythlgneadcagleaa
namespace Go.Proofs.Ythlgneadcagleaa
open Go.RowKit Go.Shelf
end Go.Proofs.Ythlgneadcagleaa
namespace Go.Proofs.Ythlgneadcagleaa
open Go.RowKit Go.Shelf
def rv (f : Nat → Nat) (s : Nat) : Nat → Nat
  | 0 => 0
  | k + 1 => rv f s k * 256 + f (s + k)
end Go.Proofs.Ythlgneadcagleaa
namespace Go.Proofs.Ythlgneadcagleaa
open Go.RowKit
def cb (a b k : Nat) : Int := (((a % 2 ^ (8 * (32 - k)) + b % 2 ^ (8 * (32 - k))) / 2 ^ (8 * (32 - k)) : Nat) : Int)
def bb (a b k : Nat) : Int := if a % 2 ^ (8 * (32 - k)) < b % 2 ^ (8 * (32 - k)) then 1 else 0
def lt1 (x y : Nat) : Nat := if x < y then 1 else 0
def Fz (g : Nat) (w : World) : Prop := ∀ j, w.frozen? ⟨g, j, none⟩ = false
end Go.Proofs.Ythlgneadcagleaa
namespace Go.Proofs.Ythlgneadcagleaa
open Go.RowKit Go.Shelf
attribute [local go_sem ↓] Go.wp_at_zero Go.wp_at_succ

end Go.Proofs.Ythlgneadcagleaa
namespace Go.Proofs.Ythlgneadcagleaa
open Go.RowKit Go.Shelf
attribute [local go_sem ↓] Go.wp_at_zero Go.wp_at_succ

end Go.Proofs.Ythlgneadcagleaa
namespace Go.Proofs.Ythlgneadcagleaa
open Go.RowKit Go.Shelf
end Go.Proofs.Ythlgneadcagleaa
namespace Go.Proofs.Ythlgneadcagleaa
open Go.RowKit Go.Shelf
def C4 (g n : Nat) (w : World) : Prop := ∀ o, o < 4 → w.cell? ⟨g, o, none⟩ = some (.int .u64 (dg n o))
end Go.Proofs.Ythlgneadcagleaa
namespace Go.Proofs.Ythlgneadcagleaa
open Go.RowKit Go.Shelf
attribute [local go_sem ↓] Go.wp_at_zero Go.wp_at_succ
end Go.Proofs.Ythlgneadcagleaa
namespace Go.Proofs.Ythlgneadcagleaa
open Go.RowKit Go.Shelf
end Go.Proofs.Ythlgneadcagleaa
namespace Go.Proofs.Ythlgneadcagleaa
open Go.RowKit Go.Shelf
end Go.Proofs.Ythlgneadcagleaa
namespace Go.Proofs.Ythlgneadcagleaa
open Go.RowKit Go.Shelf
end Go.Proofs.Ythlgneadcagleaa
namespace Go.Proofs.Ythlgneadcagleaa
open Go.RowKit Go.Shelf
attribute [local go_sem ↓] Go.wp_at_zero Go.wp_at_succ
structure E0 (w : World) (a b k : Nat) (w1 : World) : Prop where
  sz : w.heap.size + 1 + 1 + 1 + k ≤ w1.heap.size
  cA : C4 w.heap.size a w1
  cB : C4 (w.heap.size + 1) b w1
  cR : C4 (w.heap.size + 1 + 1) 0 w1
  fR : Fz (w.heap.size + 1 + 1) w1
  cZ : ∀ j, j < k → C4 (w.heap.size + 1 + 1 + 1 + j) 0 w1 ∧ Fz (w.heap.size + 1 + 1 + 1 + j) w1
  bel : Below w.heap.size w w1
end Go.Proofs.Ythlgneadcagleaa
namespace Go.Proofs.Ythlgneadcagleaa
open Go.RowKit Go.Shelf
attribute [local go_sem ↓] Go.wp_at_zero Go.wp_at_succ
theorem gb_refl (w : World) (r : Option Nat) : w.grownBy w r := ⟨rfl, rfl, rfl, Nat.le_refl _, fun _ _ _ => rfl⟩
theorem gb_trans {a b c : World} {r : Option Nat} (h : a.grownBy b r) (k : b.grownBy c r) : a.grownBy c r := ⟨k.os.trans h.os, k.tape.trans h.tape, k.output.trans h.output, Nat.le_trans h.size k.size, fun i hi hne => (k.block i (Nat.lt_of_lt_of_le hi h.size) hne).trans (h.block i hi hne)⟩
theorem gb_below {a b : World} {r : Option Nat} (h : Below a.heap.size a b) : a.grownBy b r := ⟨h.os, h.tape, h.output, h.size, fun k hk _ => h.block k hk⟩
theorem gb_set (a : World) (g o : Nat) (v : Value) : a.grownBy (a.setCell ⟨g, o, none⟩ v) (some g) := ⟨rfl, rfl, rfl, by simp [World.setCell], fun k _ hne => Below.heap_setCell _ _ _ _ (fun e => hne (by rw [e]))⟩
end Go.Proofs.Ythlgneadcagleaa
namespace Go.Proofs.Ythlgneadcagleaa
open Go.RowKit Go.Shelf
attribute [local go_sem ↓] Go.wp_at_zero Go.wp_at_succ
end Go.Proofs.Ythlgneadcagleaa
namespace Go.Proofs.Ythlgneadcagleaa
open Go.RowKit Go.Shelf
attribute [local go_sem ↓] Go.wp_at_zero Go.wp_at_succ
end Go.Proofs.Ythlgneadcagleaa
namespace Go.Proofs.Ythlgneadcagleaa
open Go.RowKit Go.Shelf
attribute [local go_sem ↓] Go.wp_at_zero Go.wp_at_succ
def Rs (n : Nat) : Value := .agg #[.int .u64 (dg n 0), .int .u64 (dg n 1), .int .u64 (dg n 2), .int .u64 (dg n 3), .int .u64 (dg n 4), .int .u64 (dg n 5), .int .u64 (dg n 6), .int .u64 (dg n 7), .int .u64 (dg n 8)]
end Go.Proofs.Ythlgneadcagleaa
namespace Go.Proofs.Ythlgneadcagleaa
open Go.RowKit Go.Shelf
attribute [local go_sem ↓] Go.wp_at_zero Go.wp_at_succ
end Go.Proofs.Ythlgneadcagleaa
namespace Go.Proofs.Ythlgneadcagleaa
end Go.Proofs.Ythlgneadcagleaa
namespace Go.Proofs.Ythlgneadcagleaa
open Go.RowKit Go.Shelf
attribute [local go_sem ↓] Go.wp_at_zero Go.wp_at_succ

end Go.Proofs.Ythlgneadcagleaa
namespace Go.Proofs.Ythlgneadcagleaa
open Go.RowKit Go.Shelf
attribute [local go_sem ↓] Go.wp_at_zero Go.wp_at_succ
end Go.Proofs.Ythlgneadcagleaa
namespace Go.Proofs.Ythlgneadcagleaa
open Go.RowKit Go.Shelf
attribute [local go_sem ↓] Go.wp_at_zero Go.wp_at_succ
end Go.Proofs.Ythlgneadcagleaa
namespace Go.Proofs.Ythlgneadcagleaa
open Go.RowKit Go.Shelf
attribute [local go_sem ↓] Go.wp_at_zero Go.wp_at_succ

end Go.Proofs.Ythlgneadcagleaa
namespace Go.Proofs.Ythlgneadcagleaa
open Go.RowKit Go.Shelf
end Go.Proofs.Ythlgneadcagleaa
namespace Go.Proofs.Ythlgneadcagleaa
namespace Hm
open Go.RowKit
end Hm
namespace RS
open RI
variable {P : Program} {ops : Array Oper} {Q : Exit → Act → World → Prop}
def Two (S T : World → Prop) (k : Nat) (d : Nat → Bool) (w : World) : Prop := (d k = false → S w) ∧ (d k = true → T w ∧ ∀ j, j < k → d j = true)
theorem two0 {S T : World → Prop} {k : Nat} {w : World} (h : S w) : Two S T k (fun _ => false) w := ⟨fun _ => h, fun h => by cases h⟩
theorem two_step {S T : World → Prop} {k i : Nat} {o : Oper} {a : Act} {v : Value} (hik : i < k)
    (h : ∀ (K : Value → World → Prop) w, S w → (∀ w', S w' → K v w') → upv P K ((execOp a.eval o).run P w)) : ∀ (K : Value → World → Prop) d w, Two S T k d w → may ops d i → (∀ w', Two S T k (don d i) w' → K v w') → upv P K ((execOp a.eval o).run P w) := by
  intro K d w hI hmay hK
  have hdk : d k = false := by
    cases hd : d k with
    | false => rfl
    | true => have := (hI.2 hd).2 i hik; rw [hmay.1] at this; cases this
  exact h K w (hI.1 hdk) (fun w' hS' => hK w' ⟨fun _ => hS', fun h => by rw [don_other _ _ _ (by omega), hdk] at h; cases h⟩)
theorem go2 {S T : World → Prop} {k : Nat} {E : Act → Prop} {i : Nat} {o : Oper} {r : List Oper} {a a' : Act} {v : Value} (hik : i < k) (hg : o.guard = none)
    (h : ∀ (K : Value → World → Prop) w, S w → (∀ w', S w' → K v w') → upv P K ((execOp a.eval o).run P w)) (he : a.put o.dst v = a')
    (hr : Seq P ops (Two S T k) E (i + 1) r a') : Seq P ops (Two S T k) E i (o :: r) a :=
  ⟨v, .inl ⟨by simp [Region.wanted, hg], two_step hik h⟩, he ▸ hr⟩
theorem go2_last {S T : World → Prop} {k : Nat} {E : Act → Prop} {o : Oper} {a a' : Act} {v : Value} (hg : o.guard = none) (hb : ((List.range k).all fun j => bindsOn o j) = true) (hk : ops[k]? = some o)
    (h : ∀ (K : Value → World → Prop) w, S w → (∀ w', T w' → K v w') → upv P K ((execOp a.eval o).run P w)) (he : a.put o.dst v = a')
    (hr : E a') : Seq P ops (Two S T k) E k [o] a := by
  refine ⟨v, .inl ⟨by simp [Region.wanted, hg], fun K d w hI hmay hK => h K w (hI.1 hmay.1) (fun w' hT => hK w' (And.intro (fun h => by rw [don_same] at h; exact absurd h (by decide)) (fun _ => And.intro hT (fun j hj => ?_))))⟩, he ▸ hr⟩
  rw [don_other _ _ _ (by omega)]
  have h1 := List.all_eq_true.1 hb j (List.mem_range.2 hj)
  unfold bindsOn at h1
  rw [Array.any_eq_true'] at h1
  obtain ⟨e, e1, e2⟩ := h1
  rw [Bool.and_eq_true, beq_iff_eq] at e2
  have h2 := hmay.2 o hk
  rw [Array.all_eq_true_iff_forall_mem] at h2
  have h3 := h2 e e1
  rw [e2.1, e2.2] at h3
  simpa using h3
theorem wp_region_two {id : Nat} {a : Act} {w : World} (S T : World → Prop) (k : Nat) (hm : P.follows .mixedOrders = true) (hok : okOps ops = true) (hk : k < ops.size) (h0 : S w.drew)
    (hs : Seq P ops (Two S T k) (fun a' => ∀ w', T w' → Q .normal a' w') 0 ops.toList a) : (Code.region id ops true).wp P Q a w := by
  refine wp_region_seq (Two S T k) hm hok (two0 h0) ?_
  have : ∀ l i a, Seq P ops (Two S T k) (fun a' => ∀ w', T w' → Q .normal a' w') i l a → Seq P ops (Two S T k) (fun a' => ∀ d w', Two S T k d w' → (∀ i, i < ops.size → d i = true) → Q .normal a' w') i l a := by
    intro l
    induction l with
    | nil => intro i a h d w' hI hall; exact h w' (hI.2 (hall k hk)).1
    | cons o r ih => intro i a h; obtain ⟨v, h1, h2⟩ := h; exact ⟨v, h1, ih _ _ h2⟩
  exact this _ _ _ hs
theorem wp_region_one {id : Nat} {a : Act} {w : World} (S : World → Prop) (hm : P.follows .mixedOrders = true) (hok : okOps ops = true) (h0 : S w.drew)
    (hs : Seq P ops (fun _ => S) (fun a' => ∀ w', S w' → Q .normal a' w') 0 ops.toList a) : (Code.region id ops true).wp P Q a w := by
  refine wp_region_seq (fun _ => S) hm hok h0 ?_
  have : ∀ l i a, Seq P ops (fun _ => S) (fun a' => ∀ w', S w' → Q .normal a' w') i l a → Seq P ops (fun _ => S) (fun a' => ∀ (d : Nat → Bool) w', S w' → (∀ i, i < ops.size → d i = true) → Q .normal a' w') i l a := by
    intro l
    induction l with
    | nil => intro i a h d w' hI _; exact h w' hI
    | cons o r ih => intro i a h; obtain ⟨v, h1, h2⟩ := h; exact ⟨v, h1, ih _ _ h2⟩
  exact this _ _ _ hs
end RS
end Go.Proofs.Ythlgneadcagleaa
namespace Go.Proofs.Ythlgneadcagleaa
namespace Tr
open Nb Go.RowKit
mutual
def sn : Nd → Nd → Bool
  | .mk k p v ks, .mk k2 p2 v2 ks2 => decide (k = k2) && (if k = 1 then decide (p = p2) && decide (v = v2) else if k = 2 then decide (p = p2) && sns ks ks2 else if k = 3 then decide (v = v2) && sns ks ks2 else true)
def sns : List Nd → List Nd → Bool
  | [], [] => true
  | a :: r, b :: s => sn a b && sns r s
  | [], _ :: _ => false
  | _ :: _, [] => false
end
theorem sns_len : ∀ a b : List Nd, a.length ≠ b.length → sns a b = false
  | [], [], h => absurd rfl h
  | [], _ :: _, _ => by simp [sns]
  | _ :: _, [], _ => by simp [sns]
  | k :: a, j :: b, h => by
    unfold sns
    rw [sns_len a b (by simpa using h), Bool.and_false]
theorem sns_all : ∀ a b : List Nd, a.length = b.length → (∀ j, j < a.length → sn (a.getD j Nd.no) (b.getD j Nd.no) = true) → sns a b = true
  | [], [], _, _ => by simp [sns]
  | [], _ :: _, h, _ => by simp at h
  | _ :: _, [], h, _ => by simp at h
  | k :: a, j :: b, h, hi => by
    have h0 := hi 0 (by simp)
    have h1 := sns_all a b (by simpa using h) (fun i hj => by have := hi (i + 1) (by simpa using hj); simpa only [List.getD_cons_succ] using this)
    unfold sns
    rw [h1, Bool.and_true]
    simpa only [List.getD_cons_zero] using h0
theorem sns_one : ∀ (a b : List Nd) (i : Nat), a.length = b.length → i < a.length → sn (a.getD i Nd.no) (b.getD i Nd.no) = false → sns a b = false
  | [], [], i, _, hi, _ => by simp at hi
  | [], _ :: _, _, h, _, _ => by simp at h
  | _ :: _, [], h, _, _, _ => by simp_all
  | k :: a, j :: b, 0, _, _, hs => by
    unfold sns
    rw [show sn k j = false from hs, Bool.false_and]
  | k :: a, j :: b, i + 1, h, hi, hs => by
    unfold sns
    rw [sns_one a b i (by simpa using h) (by simpa using hi) (by simpa only [List.getD_cons_succ] using hs), Bool.and_false]
set_option maxHeartbeats 1000000 in
set_option maxRecDepth 100000 in
theorem eqf_len (a1 a2 : Option Addr) (n1 c1 n2 c2 : Nat) (w : World) (h : n1 ≠ n2) :
    Calls Try.prog 33 #[.slice a1 n1 c1, .slice a2 n2 c2, .func (.func 15) #[] #[]] w fun e w' => e = .returned (.bool false) ∧ Below w.heap.size w w' := by
  have d0 : ((n1 : Int) != (n2 : Int)) = true := bne_iff_ne.2 (by omega)
  have d1 : (n1 != n2) = true := bne_iff_ne.2 h
  have B : Hid (Below w.heap.size w w) := Below.refl _ _
  go_enter Try.func33, Try.ntmps33
  go_wp2_with fail
  go_ret
  exact ⟨rfl, B.out⟩
set_option maxHeartbeats 1000000 in
set_option maxRecDepth 100000 in
theorem eqf_any (S T : Nat → Prop) (ks js : List Nd) (vs us : List V4) (a1 a2 : Option Addr) (n c1 c2 : Nat) (w : World) (hn : Hid (n = ks.length)) (hn2 : Hid (n = js.length)) (hl : Hid (vs.length = ks.length)) (hl2 : Hid (us.length = js.length))
    (hk : Hid (Ks S vs (.slice a1 n c1) w)) (hk2 : Hid (Ks T us (.slice a2 n c2) w)) (hi : Hid (∀ j, j < ks.length → Nv S w (ks.getD j Nd.no) (vs.getD j n4))) (hi2 : Hid (∀ j, j < js.length → Nv T w (js.getD j Nd.no) (us.getD j n4)))
    (IH : Hid (∀ j, j < ks.length → ∀ (v u : V4) (w : World), Nv S w (ks.getD j Nd.no) v → Nv T w (js.getD j Nd.no) u → Calls Try.prog 15 #[v4 v, v4 u] w fun e w' => e = .returned (.bool (sn (ks.getD j Nd.no) (js.getD j Nd.no))) ∧ Below w.heap.size w w')) (hz : Hid (n ≤ 4194304)) :
    Calls Try.prog 33 #[.slice a1 n c1, .slice a2 n c2, .func (.func 15) #[] #[]] w fun e w' => e = .returned (.bool (sns ks js)) ∧ Below w.heap.size w w' := by
  have d0 : ((n : Int) != (n : Int)) = false := by simp
  go_enter Try.func33, Try.ntmps33
  go_wp2_with fail
  go_loopw [17] (fun i wr => ∃ k : Nat, k ≤ n ∧ i = .int .i64 (k : Int) ∧ (∀ j, j < k → sn (ks.getD j Nd.no) (js.getD j Nd.no) = true) ∧ Below w.heap.size w wr) (fun i _ => ((n : Int) - intOf i).toNat)
  case atStart => exact ⟨0, Nat.zero_le _, rfl, fun j hj => absurd hj (by omega), Below.refl _ _⟩
  case round =>
    obtain ⟨k, hkn, rfl, hall, hB⟩ := hrel
    by_cases hlt : k < n
    · have d0 : decide ((k : Int) < (n : Int)) = true := decide_eq_true (by omega)
      have d1 : (0 : Int) ≤ (k : Int) := by omega
      have d2 : (k : Int) < (n : Int) := by omega
      have hks : k < ks.length := by have := hn.out; omega
      have hjs : k < js.length := by have := hn2.out; omega
      obtain ⟨ao, cap, e2, -, hq⟩ := hk.out
      obtain ⟨gk, off, rfl, -, hgk, hcell⟩ := hq (by have := hl.out; omega)
      injection e2 with e2 e2' e2''
      subst e2
      clear e2' e2''
      obtain ⟨ao2, cap2, e3, -, hq2⟩ := hk2.out
      obtain ⟨gj, off2, rfl, -, hgj, hcell2⟩ := hq2 (by have := hl2.out; omega)
      injection e3 with e3 e3' e3''
      subst e3
      clear e3' e3''
      obtain ⟨x0, x1, x2, x3⟩ := hcell k (by have := hl.out; omega)
      obtain ⟨y0, y1, y2, y3⟩ := hcell2 k (by have := hl2.out; omega)
      have iv := hi.out k hks
      have jv := hi2.out k hjs
      obtain ⟨q, b1, m1, q1, b2, m2, q2, b3, m3, q3, ev⟩ := Nv_form iv
      obtain ⟨r, f1, s1, r1, f2, s2, r2, f3, s3, r3, eu⟩ := Nv_form jv
      rw [ev] at x0 x1 x2 x3 iv
      rw [eu] at y0 y1 y2 y3 jv
      have KB : Hid (∀ w : World, Nv S w (ks.getD k Nd.no) (.int .i64 q, .slice b1 m1 q1, .slice b2 m2 q2, .slice b3 m3 q3) → Nv T w (js.getD k Nd.no) (.int .i64 r, .slice f1 s1 r1, .slice f2 s2 r2, .slice f3 s3 r3) → Calls Try.prog 15 #[.agg #[.int .i64 q, .slice b1 m1 q1, .slice b2 m2 q2, .slice b3 m3 q3], .agg #[.int .i64 r, .slice f1 s1 r1, .slice f2 s2 r2, .slice f3 s3 r3]] w fun e w' => e = .returned (.bool (sn (ks.getD k Nd.no) (js.getD k Nd.no))) ∧ Below w.heap.size w w') := IH.out k hks (.int .i64 q, .slice b1 m1 q1, .slice b2 m2 q2, .slice b3 m3 q3) (.int .i64 r, .slice f1 s1 r1, .slice f2 s2 r2, .slice f3 s3 r3)
      have z0 := (hB.cell (p := ⟨gk, off + 4 * k, none⟩) hgk).trans x0
      have z1 := (hB.cell (p := ⟨gk, off + 4 * k + 1, none⟩) hgk).trans x1
      have z2 := (hB.cell (p := ⟨gk, off + 4 * k + 2, none⟩) hgk).trans x2
      have z3 := (hB.cell (p := ⟨gk, off + 4 * k + 3, none⟩) hgk).trans x3
      have t0 := (hB.cell (p := ⟨gj, off2 + 4 * k, none⟩) hgj).trans y0
      have t1 := (hB.cell (p := ⟨gj, off2 + 4 * k + 1, none⟩) hgj).trans y1
      have t2 := (hB.cell (p := ⟨gj, off2 + 4 * k + 2, none⟩) hgj).trans y2
      have t3 := (hB.cell (p := ⟨gj, off2 + 4 * k + 3, none⟩) hgj).trans y3
      have hgk2 : gk < wr.heap.size := Nat.lt_of_lt_of_le hgk hB.size
      have hgj2 : gj < wr.heap.size := Nat.lt_of_lt_of_le hgj hB.size
      rw [Nat.mul_comm 4 k] at z0 z1 z2 z3 t0 t1 t2 t3
      have bA : Below wr.heap.size wr ((wr.alloc (.cells #[.int .i64 q, .slice b1 m1 q1, .slice b2 m2 q2, .slice b3 m3 q3] 25)).alloc (.cells #[.int .i64 r, .slice f1 s1 r1, .slice f2 s2 r2, .slice f3 s3 r3] 25)) := ((Below.refl _ _).alloc (Nat.le_refl _) _).alloc (by simp) _
      have IW : Hid (Nv S ((wr.alloc (.cells #[.int .i64 q, .slice b1 m1 q1, .slice b2 m2 q2, .slice b3 m3 q3] 25)).alloc (.cells #[.int .i64 r, .slice f1 s1 r1, .slice f2 s2 r2, .slice f3 s3 r3] 25)) (ks.getD k Nd.no) (.int .i64 q, .slice b1 m1 q1, .slice b2 m2 q2, .slice b3 m3 q3)) := Nv_below (Nv_below iv hB) bA
      have JW : Hid (Nv T ((wr.alloc (.cells #[.int .i64 q, .slice b1 m1 q1, .slice b2 m2 q2, .slice b3 m3 q3] 25)).alloc (.cells #[.int .i64 r, .slice f1 s1 r1, .slice f2 s2 r2, .slice f3 s3 r3] 25)) (js.getD k Nd.no) (.int .i64 r, .slice f1 s1 r1, .slice f2 s2 r2, .slice f3 s3 r3)) := Nv_below (Nv_below jv hB) bA
      have B2 : Hid (Below w.heap.size w ((wr.alloc (.cells #[.int .i64 q, .slice b1 m1 q1, .slice b2 m2 q2, .slice b3 m3 q3] 25)).alloc (.cells #[.int .i64 r, .slice f1 s1 r1, .slice f2 s2 r2, .slice f3 s3 r3] 25))) := hB.trans (bA.mono hB.size)
      have e5 : Hid (wrap64 ((k : Int) + 1) = ((k + 1 : Nat) : Int)) := by have := hz.out; show _ = _; unfold wrap64; omega
      have HALL : Hid _ := hall
      have HF : Hid (sn (ks.getD k Nd.no) (js.getD k Nd.no) = false → sns ks js = false) := fun h => sns_one ks js k (by have := hn.out; have := hn2.out; omega) hks h
      clear hq hq2 hcell hcell2 x0 x1 x2 x3 y0 y1 y2 y3 ev eu iv jv bA hall hks hjs
      go_wp2_with fail
      refine (KB.out _ IW.out JW.out).mono (fun e w5 he => ?_)
      obtain ⟨rfl, b5⟩ := he
      have B5 : Below w.heap.size w w5 := B2.out.trans (b5.mono B2.out.size)
      clear KB IW JW B2 z0 z1 z2 z3 t0 t1 t2 t3 b5
      cases hb : sn (ks.getD k Nd.no) (js.getD k Nd.no) with
      | true =>
        go_wp2_with fail
        rw [e5.out]
        refine ⟨⟨k + 1, hlt, rfl, fun j hj => ?_, B5⟩, msr_up k n hlt⟩
        rcases Nat.lt_or_ge j k with h | h
        · exact HALL.out j h
        · have e : j = k := by omega
          rw [e]; exact hb
      | false =>
        have hf : Hid (sns ks js = false) := HF.out hb
        go_wp2_with fail
        go_ret
        exact ⟨by rw [hf.out]; rfl, B5⟩
    · have d0 : decide ((k : Int) < (n : Int)) = false := decide_eq_false (by omega)
      have hs : Hid (sns ks js = true) := sns_all ks js (by have := hn.out; have := hn2.out; omega) (fun j hj => hall j (by have := hn.out; omega))
      have BF : Hid (Below w.heap.size w wr) := hB
      go_wp2_with fail
      go_ret
      exact ⟨by rw [hs.out]; rfl, BF.out⟩
end Tr
end Go.Proofs.Ythlgneadcagleaa
namespace Go.Proofs.Ythlgneadcagleaa
namespace Tr
open Nb Go.RowKit
set_option maxHeartbeats 1000000 in
set_option maxRecDepth 100000 in
theorem same_kind (a1 a2 a3 b1 b2 b3 : Option Addr) (n1 c1 n2 c2 n3 c3 m1 d1 m2 d2 m3 d3 : Nat) (w : World) (k j : Int) (h : k ≠ j) :
    Calls Try.prog 15 #[.agg #[.int .i64 k, .slice a1 n1 c1, .slice a2 n2 c2, .slice a3 n3 c3], .agg #[.int .i64 j, .slice b1 m1 d1, .slice b2 m2 d2, .slice b3 m3 d3]] w fun e w' => e = .returned (.bool false) ∧ Below w.heap.size w w' := by
  have d0 : (k != j) = true := bne_iff_ne.2 h
  have B1 : Below w.heap.size w ((w.alloc (.cells #[.int .i64 k, .slice a1 n1 c1, .slice a2 n2 c2, .slice a3 n3 c3] 25)).alloc (.cells #[.int .i64 j, .slice b1 m1 d1, .slice b2 m2 d2, .slice b3 m3 d3] 25)) := ((Below.refl _ _).alloc (Nat.le_refl _) _).alloc (by simp) _
  have B : Hid (Below w.heap.size w ((w.alloc (.cells #[.int .i64 k, .slice a1 n1 c1, .slice a2 n2 c2, .slice a3 n3 c3] 25)).alloc (.cells #[.int .i64 j, .slice b1 m1 d1, .slice b2 m2 d2, .slice b3 m3 d3] 25))) := B1
  clear B1 h
  go_enter Try.func15, Try.ntmps15
  go_wp2_with fail
  go_ret
  exact ⟨rfl, B.out⟩
set_option maxHeartbeats 1000000 in
set_option maxRecDepth 100000 in
theorem same_other (a1 a2 a3 b1 b2 b3 : Option Addr) (n1 c1 n2 c2 n3 c3 m1 d1 m2 d2 m3 d3 : Nat) (w : World) (k : Int) (h1 : k ≠ 1) (h2 : k ≠ 2) (h3 : k ≠ 3) :
    Calls Try.prog 15 #[.agg #[.int .i64 k, .slice a1 n1 c1, .slice a2 n2 c2, .slice a3 n3 c3], .agg #[.int .i64 k, .slice b1 m1 d1, .slice b2 m2 d2, .slice b3 m3 d3]] w fun e w' => e = .returned (.bool true) ∧ Below w.heap.size w w' := by
  have d0 : (k != k) = false := by simp
  have e1 : (k == 1) = false := beq_eq_false_iff_ne.2 h1
  have e2 : (k == 2) = false := beq_eq_false_iff_ne.2 h2
  have e3 : (k == 3) = false := beq_eq_false_iff_ne.2 h3
  have B1 : Below w.heap.size w ((w.alloc (.cells #[.int .i64 k, .slice a1 n1 c1, .slice a2 n2 c2, .slice a3 n3 c3] 25)).alloc (.cells #[.int .i64 k, .slice b1 m1 d1, .slice b2 m2 d2, .slice b3 m3 d3] 25)) := ((Below.refl _ _).alloc (Nat.le_refl _) _).alloc (by simp) _
  have B : Hid (Below w.heap.size w ((w.alloc (.cells #[.int .i64 k, .slice a1 n1 c1, .slice a2 n2 c2, .slice a3 n3 c3] 25)).alloc (.cells #[.int .i64 k, .slice b1 m1 d1, .slice b2 m2 d2, .slice b3 m3 d3] 25))) := B1
  clear B1 h1 h2 h3
  go_enter Try.func15, Try.ntmps15
  go_wp2_with fail
  go_ret
  exact ⟨rfl, B.out⟩
set_option maxHeartbeats 1000000 in
set_option maxRecDepth 100000 in
theorem same_leaf (a1 a2 a3 b1 b2 b3 : Option Addr) (n1 c1 n2 c2 n3 c3 m1 d1 m2 d2 m3 d3 : Nat) (w : World) (p v q u : By) (hp : Pk.Sl p (.slice a1 n1 c1) w) (hv : Pk.Sl v (.slice a2 n2 c2) w) (hq : Pk.Sl q (.slice b1 m1 d1) w) (hu : Pk.Sl u (.slice b2 m2 d2) w) :
    Calls Try.prog 15 #[.agg #[.int .i64 1, .slice a1 n1 c1, .slice a2 n2 c2, .slice a3 n3 c3], .agg #[.int .i64 1, .slice b1 m1 d1, .slice b2 m2 d2, .slice b3 m3 d3]] w fun e w' => e = .returned (.bool (decide (p = q) && decide (v = u))) ∧ Below w.heap.size w w' := by
  have B1 : Below w.heap.size w ((w.alloc (.cells #[.int .i64 1, .slice a1 n1 c1, .slice a2 n2 c2, .slice a3 n3 c3] 25)).alloc (.cells #[.int .i64 1, .slice b1 m1 d1, .slice b2 m2 d2, .slice b3 m3 d3] 25)) := ((Below.refl _ _).alloc (Nat.le_refl _) _).alloc (by simp) _
  have B : Hid (Below w.heap.size w ((w.alloc (.cells #[.int .i64 1, .slice a1 n1 c1, .slice a2 n2 c2, .slice a3 n3 c3] 25)).alloc (.cells #[.int .i64 1, .slice b1 m1 d1, .slice b2 m2 d2, .slice b3 m3 d3] 25))) := B1
  have x1 := Sl_st (Pk.Sl_below hp B1)
  have x2 := Sl_st (Pk.Sl_below hv B1)
  have x3 := Sl_st (Pk.Sl_below hq B1)
  have x4 := Sl_st (Pk.Sl_below hu B1)
  clear B1 hp hv hq hu
  by_cases h1 : p = q
  · subst h1
    by_cases h2 : v = u
    · subst h2
      rw [decide_eq_true rfl, decide_eq_true rfl, Bool.true_and]
      generalize st p = X at *
      generalize st v = Y at *
      go_enter Try.func15, Try.ntmps15
      go_wp2_with fail
      go_ret
      exact ⟨rfl, B.out⟩
    · have hne : ((st v).toList == (st u).toList) = false := by rw [st_list, st_list]; exact beq_eq_false_iff_ne.2 h2
      have hne2 : ¬ (st v).toList = (st u).toList := by rw [st_list, st_list]; exact h2
      rw [decide_eq_true rfl, decide_eq_false h2, Bool.true_and]
      generalize st p = X at *
      generalize st v = Y at *
      generalize st u = Z at *
      go_enter Try.func15, Try.ntmps15
      go_wp2_with fail
      go_ret
      exact ⟨by first | rfl | simp [hne] | simp [hne2], B.out⟩
  · have hne : ((st p).toList == (st q).toList) = false := by rw [st_list, st_list]; exact beq_eq_false_iff_ne.2 h1
    have hne2 : ¬ (st p).toList = (st q).toList := by rw [st_list, st_list]; exact h1
    rw [decide_eq_false h1, Bool.false_and]
    generalize st p = X at *
    generalize st q = Z at *
    go_enter Try.func15, Try.ntmps15
    go_wp2_with fail
    go_ret
    exact ⟨by first | rfl | simp [hne] | simp [hne2], B.out⟩
set_option maxHeartbeats 1000000 in
set_option maxRecDepth 100000 in
theorem same_road (a1 a2 a3 b1 b2 b3 : Option Addr) (n1 c1 n2 c2 n3 c3 m1 d1 m2 d2 m3 d3 : Nat) (w : World) (p q : By) (R : Bool) (hp : Pk.Sl p (.slice a1 n1 c1) w) (hq : Pk.Sl q (.slice b1 m1 d1) w) (KE : Hid (∀ W : World, Below w.heap.size w W → Calls Try.prog 33 #[.slice a3 n3 c3, .slice b3 m3 d3, .func (.func 15) #[] #[]] W fun e w' => e = .returned (.bool R) ∧ Below W.heap.size W w')) :
    Calls Try.prog 15 #[.agg #[.int .i64 2, .slice a1 n1 c1, .slice a2 n2 c2, .slice a3 n3 c3], .agg #[.int .i64 2, .slice b1 m1 d1, .slice b2 m2 d2, .slice b3 m3 d3]] w fun e w' => e = .returned (.bool (decide (p = q) && R)) ∧ Below w.heap.size w w' := by
  have B1 : Below w.heap.size w ((w.alloc (.cells #[.int .i64 2, .slice a1 n1 c1, .slice a2 n2 c2, .slice a3 n3 c3] 25)).alloc (.cells #[.int .i64 2, .slice b1 m1 d1, .slice b2 m2 d2, .slice b3 m3 d3] 25)) := ((Below.refl _ _).alloc (Nat.le_refl _) _).alloc (by simp) _
  have B : Hid (Below w.heap.size w ((w.alloc (.cells #[.int .i64 2, .slice a1 n1 c1, .slice a2 n2 c2, .slice a3 n3 c3] 25)).alloc (.cells #[.int .i64 2, .slice b1 m1 d1, .slice b2 m2 d2, .slice b3 m3 d3] 25))) := B1
  have x1 := Sl_st (Pk.Sl_below hp B1)
  have x3 := Sl_st (Pk.Sl_below hq B1)
  have KK : Hid _ := KE.out _ B1
  clear B1 hp hq KE
  by_cases h1 : p = q
  · subst h1
    rw [decide_eq_true rfl, Bool.true_and]
    generalize st p = X at *
    go_enter Try.func15, Try.ntmps15
    go_wp2_with fail
    refine Calls.mono KK.out (fun e w2 he => ?_)
    obtain ⟨rfl, b2⟩ := he
    have B2 : Hid _ := B.out.trans (b2.mono B.out.size)
    clear b2 KK
    go_wp2_with fail
    go_ret
    exact ⟨rfl, B2.out⟩
  · have hne : ((st p).toList == (st q).toList) = false := by rw [st_list, st_list]; exact beq_eq_false_iff_ne.2 h1
    have hne2 : ¬ (st p).toList = (st q).toList := by rw [st_list, st_list]; exact h1
    rw [decide_eq_false h1, Bool.false_and]
    generalize st p = X at *
    generalize st q = Z at *
    clear KK
    go_enter Try.func15, Try.ntmps15
    go_wp2_with fail
    go_ret
    exact ⟨by first | rfl | simp [hne] | simp [hne2], B.out⟩
set_option maxHeartbeats 1000000 in
set_option maxRecDepth 100000 in
theorem same_fork (a1 a2 a3 b1 b2 b3 : Option Addr) (n1 c1 n2 c2 n3 c3 m1 d1 m2 d2 m3 d3 : Nat) (w : World) (p q : By) (R : Bool) (hp : Pk.Sl p (.slice a2 n2 c2) w) (hq : Pk.Sl q (.slice b2 m2 d2) w) (KE : Hid (∀ W : World, Below w.heap.size w W → Calls Try.prog 33 #[.slice a3 n3 c3, .slice b3 m3 d3, .func (.func 15) #[] #[]] W fun e w' => e = .returned (.bool R) ∧ Below W.heap.size W w')) :
    Calls Try.prog 15 #[.agg #[.int .i64 3, .slice a1 n1 c1, .slice a2 n2 c2, .slice a3 n3 c3], .agg #[.int .i64 3, .slice b1 m1 d1, .slice b2 m2 d2, .slice b3 m3 d3]] w fun e w' => e = .returned (.bool (decide (p = q) && R)) ∧ Below w.heap.size w w' := by
  have B1 : Below w.heap.size w ((w.alloc (.cells #[.int .i64 3, .slice a1 n1 c1, .slice a2 n2 c2, .slice a3 n3 c3] 25)).alloc (.cells #[.int .i64 3, .slice b1 m1 d1, .slice b2 m2 d2, .slice b3 m3 d3] 25)) := ((Below.refl _ _).alloc (Nat.le_refl _) _).alloc (by simp) _
  have B : Hid (Below w.heap.size w ((w.alloc (.cells #[.int .i64 3, .slice a1 n1 c1, .slice a2 n2 c2, .slice a3 n3 c3] 25)).alloc (.cells #[.int .i64 3, .slice b1 m1 d1, .slice b2 m2 d2, .slice b3 m3 d3] 25))) := B1
  have x1 := Sl_st (Pk.Sl_below hp B1)
  have x3 := Sl_st (Pk.Sl_below hq B1)
  have KK : Hid _ := KE.out _ B1
  clear B1 hp hq KE
  by_cases h1 : p = q
  · subst h1
    rw [decide_eq_true rfl, Bool.true_and]
    generalize st p = X at *
    go_enter Try.func15, Try.ntmps15
    go_wp2_with fail
    refine Calls.mono KK.out (fun e w2 he => ?_)
    obtain ⟨rfl, b2⟩ := he
    have B2 : Hid _ := B.out.trans (b2.mono B.out.size)
    clear b2 KK
    go_wp2_with fail
    go_ret
    exact ⟨rfl, B2.out⟩
  · have hne : ((st p).toList == (st q).toList) = false := by rw [st_list, st_list]; exact beq_eq_false_iff_ne.2 h1
    have hne2 : ¬ (st p).toList = (st q).toList := by rw [st_list, st_list]; exact h1
    rw [decide_eq_false h1, Bool.false_and]
    generalize st p = X at *
    generalize st q = Z at *
    clear KK
    go_enter Try.func15, Try.ntmps15
    go_wp2_with fail
    go_ret
    exact ⟨by first | rfl | simp [hne] | simp [hne2], B.out⟩
inductive Sm : Nd → Prop where
  | mk (k : Int) (p v : By) (ks : List Nd) (hk : ks.length ≤ 4194304) (h : ∀ j, j < ks.length → Sm (ks.getD j Nd.no)) : Sm (.mk k p v ks)
theorem same_any {t : Nd} (hs : Sm t) : ∀ (s : Nd) (S T : Nat → Prop) (v u : V4) (w : World), Nv S w t v → Nv T w s u → Calls Try.prog 15 #[v4 v, v4 u] w fun e w' => e = .returned (.bool (sn t s)) ∧ Below w.heap.size w w' := by
  induction hs with
  | mk k p v ks hk _ ih =>
    intro s S T x y w hx hy
    cases hx with
    | mk _ _ _ _ pv vv kv vs hp hv hl hkk hi =>
      cases hy with
      | mk k2 p2 v2 ks2 pv2 vv2 kv2 vs2 hp2 hv2 hl2 hkk2 hi2 =>
        have sp := Bs_sl hp
        have sv := Bs_sl hv
        have sp2 := Bs_sl hp2
        have sv2 := Bs_sl hv2
        obtain ⟨a1, c1, rfl, -, -⟩ := hp
        obtain ⟨a2, c2, rfl, -, -⟩ := hv
        obtain ⟨b1, d1, rfl, -, -⟩ := hp2
        obtain ⟨b2, d2, rfl, -, -⟩ := hv2
        have hkA := hkk
        have hkB := hkk2
        obtain ⟨a3, c3, rfl, -, -⟩ := hkk
        obtain ⟨b3, d3, rfl, -, -⟩ := hkk2
        show Calls Try.prog 15 #[.agg #[.int .i64 k, _, _, _], .agg #[.int .i64 k2, _, _, _]] w _
        unfold sn
        by_cases hkk : k = k2
        · subst hkk
          rw [decide_eq_true rfl, Bool.true_and]
          have KE : ∀ W : World, Below w.heap.size w W → Calls Try.prog 33 #[.slice a3 vs.length c3, .slice b3 vs2.length d3, .func (.func 15) #[] #[]] W fun e w' => e = .returned (.bool (sns ks ks2)) ∧ Below W.heap.size W w' := fun W hW => by
            by_cases hlen : ks.length = ks2.length
            · have e : vs2.length = vs.length := by omega
              rw [e] at hkB ⊢
              exact eqf_any S T ks ks2 vs vs2 a3 b3 vs.length c3 d3 W hl (by show _ = _; omega) hl (by show _ = _; omega) (Ks_below hkA hW) (Ks_below hkB hW) (fun j hj => Nv_below (hi j hj) hW) (fun j hj => Nv_below (hi2 j hj) hW) (fun j hj v u w h1 h2 => ih j hj _ S T v u w h1 h2) (by show _ ≤ _; omega)
            · rw [sns_len ks ks2 hlen]
              exact eqf_len a3 b3 _ _ _ _ W (by omega)
          by_cases h1 : k = 1
          · subst h1
            rw [if_pos rfl]
            exact same_leaf a1 a2 a3 b1 b2 b3 _ c1 _ c2 _ c3 _ d1 _ d2 _ d3 w p v p2 v2 sp sv sp2 sv2
          by_cases h2 : k = 2
          · subst h2
            rw [if_neg h1, if_pos rfl]
            exact same_road a1 a2 a3 b1 b2 b3 _ c1 _ c2 _ c3 _ d1 _ d2 _ d3 w p p2 _ sp sp2 KE
          by_cases h3 : k = 3
          · subst h3
            rw [if_neg h1, if_neg h2, if_pos rfl]
            exact same_fork a1 a2 a3 b1 b2 b3 _ c1 _ c2 _ c3 _ d1 _ d2 _ d3 w v v2 _ sv sv2 KE
          · rw [if_neg h1, if_neg h2, if_neg h3]
            exact same_other a1 a2 a3 b1 b2 b3 _ c1 _ c2 _ c3 _ d1 _ d2 _ d3 w k h1 h2 h3
        · rw [decide_eq_false hkk, Bool.false_and]
          exact same_kind a1 a2 a3 b1 b2 b3 _ c1 _ c2 _ c3 _ d1 _ d2 _ d3 w k k2 hkk
end Tr
end Go.Proofs.Ythlgneadcagleaa
