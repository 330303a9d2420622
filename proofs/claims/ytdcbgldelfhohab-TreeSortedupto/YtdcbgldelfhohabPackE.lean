/- walk of a fork. -/
import Derived.Test.YtdcbgldelfhohabPackD
import Derived.RangeFuncOwn
import Derived.Test.YtdcbgldelfhohabPackB
import Derived.Tactics
import Derived.Test.YtdcbgldelfhohabPackA
import Derived.Lib.BufferOwn
import Derived.Lib.BufferWrite
import Derived.ChangeKeysEq
import Derived.RangeFuncNested
import Derived.RangeFuncBound
import Derived.RangeFuncLeaves
import Derived.Shelf.Abstract
import Derived.Shelf.RegionOpen
import Derived.OwnWalkIn
import Derived.TacticsInMore
import Derived.LoopNIn
import Derived.LoopIn
import Derived.Shelf.SlGeneric
import Derived.Shelf.SlicesQ.Reverse
import Derived.Ground.SlgnProg
import Derived.Test.YtdcbgldelfhohabProg
import Derived.Sort.OwnSorted
import Derived.Test.YtdcbgldelfhohabPackC
import Derived.Deep.Cut
namespace Go.Proofs.Ytdcbgldelfhohab
namespace Tr
open Nb Go.RowKit
theorem nw_none (v : Value) (W : World) : (nilAhead (Try.prog.types.size + Made.depth) 65 v "lampbearer/tree.walk").run Try.prog W = .ok (some false) W := by kernel_rfl
theorem nw_leaf (v : Value) (W : World) : (nilAhead (Try.prog.types.size + Made.depth) 67 v "lampbearer/tree.walk").run Try.prog W = .ok (some false) W := by kernel_rfl
theorem nw_road (v : Value) (W : World) : (nilAhead (Try.prog.types.size + Made.depth) 75 v "lampbearer/tree.walk").run Try.prog W = .ok (some false) W := by kernel_rfl
theorem nw_fork (a : Addr) (W : World) : (nilAhead (Try.prog.types.size + Made.depth) 69 (.pointer (some a)) "lampbearer/tree.walk").run Try.prog W = .ok (some false) W := by kernel_rfl
theorem nw_in {lo : Nat} {w : World} {t : Nd} {ty : TypeId} {yy : Value} {F : Nat → Prop} (h : In lo w t (.iface ty yy) F) (W : World) : (nilAhead (Try.prog.types.size + Made.depth) ty yy "lampbearer/tree.walk").run Try.prog W = .ok (some false) W := by
  cases h with
  | none p v ks F => exact nw_none _ W
  | leaf p v ks pv vv F hp hv => exact nw_leaf _ W
  | road p v t pv g F hp hk => exact nw_road _ W
  | fork p v ks g c F D hl hlo hb hc hFg hv hi hg hD hs => exact nw_fork _ W
set_option maxRecDepth 100000 in
theorem wp_nilw {o : Oper} {a : Act} {w : World} {K : Act → World → Prop} {Q : Exit → Act → World → Prop} {x : Operand} {ty : TypeId} {yy : Value} (ho : o.op = .nilCheck x) (hx : a.eval x = .func (.method "lampbearer/tree.walk") #[.iface ty yy] #[]) (hn : (nilAhead (Try.prog.types.size + Made.depth) ty yy "lampbearer/tree.walk").run Try.prog w = .ok (some false) w)
    (h : K (a.put o.dst (.func (.method "lampbearer/tree.walk") #[.iface ty yy] #[])) w) : o.wp Try.prog a w K Q := by
  have he : (execOp a.eval o).run Try.prog w = .ok (.value (.func (.method "lampbearer/tree.walk") #[.iface ty yy] #[])) w := by
    unfold execOp
    simp only [ho, hx]
    have h0 : (#[Value.iface ty yy] : Array Value)[0]? = some (.iface ty yy) := rfl
    have hn2 : (nilAhead (Try.prog.types.size + 100) ty yy "lampbearer/tree.walk").run Try.prog w = .ok (some false) w := hn
    simp only [h0, go_sem, Sem.run_bind, Result.andThen_ok, run_program, hn2]
    rfl
  unfold Oper.wp
  rw [he]
  exact h
theorem wp_ap {o : Oper} {a : Act} {s x : Operand} {t u : TypeId} {v v2 v' : Value} {w w' : World} {K : Act → World → Prop} {Q : Exit → Act → World → Prop} (ho : o.op = .call { callee := .builtin .append, args := #[s, x], argTypes := #[t, u] }) (hs : a.eval s = v) (hx : a.eval x = v2)
    (hr : (Builtin.append_ #[t, u] o.type #[v, v2]).run Try.prog w = .ok v' w') (h : K (a.put o.dst v') w') : o.wp Try.prog a w K Q := by
  unfold Oper.wp execOp
  simp only [ho, resolve, invoke, builtin, Sem.run_bind, Sem.run_pure, Result.andThen_ok, List.map_toArray, List.map_cons, List.map_nil, hs, hx, hr]
  exact h
theorem u8w (k : Nat) (h : k < 256) : Hid (IntKind.u8.wrap (k : Int) = (k : Int)) := by
  show _ = _
  rw [IntKind.wrap_u8]
  omega
/-- A slice is built, an append, a call behind all. -/
structure WM (WA WB WC : World) (Pz : World → Prop) (bd ap cl : Bool) (wx : World) : Prop where
  a : bd = false → wx = WA
  b : bd = true → ap = false → wx = WB
  c : ap = true → cl = false → wx = WC
  z : cl = true → Pz wx
  o : cl = true → ap = true
  i : ap = true → bd = true
section
variable {WA WB WC : World} {Pz : World → Prop} {bd ap cl : Bool} {wx : World}
theorem WM.na (h : WM WA WB WC Pz bd ap cl wx) (e : ap = false) : cl = false := by
  cases hc : cl with
  | false => rfl
  | true => rw [h.o hc] at e; cases e
theorem WM.nb (h : WM WA WB WC Pz bd ap cl wx) (e : bd = false) : ap = false := by
  cases hc : ap with
  | false => rfl
  | true => rw [h.i hc] at e; cases e
theorem WM.sb (h : WM WA WB WC Pz bd ap cl wx) (e : bd = false) : WM WA WB WC Pz true ap cl WB :=
  ⟨fun e => (by cases e), fun _ _ => rfl, fun ha => (by rw [h.nb e] at ha; cases ha), fun hc => (by rw [h.na (h.nb e)] at hc; cases hc), fun hc => (by rw [h.na (h.nb e)] at hc; cases hc), fun _ => rfl⟩
theorem WM.sa (h : WM WA WB WC Pz bd ap cl wx) (e : ap = false) (hb : bd = true) : WM WA WB WC Pz bd true cl WC :=
  ⟨fun e => (by rw [hb] at e; cases e), fun _ e => (by cases e), fun _ _ => rfl, fun hc => (by rw [h.na e] at hc; cases hc), fun _ => rfl, fun _ => hb⟩
theorem WM.sc {w1 : World} (h : WM WA WB WC Pz bd ap cl wx) (ha : ap = true) (hz : Pz w1) : WM WA WB WC Pz bd ap true w1 :=
  ⟨fun e => (by rw [h.i ha] at e; cases e), fun _ e => (by rw [ha] at e; cases e), fun _ e => (by cases e), fun _ => hz, fun _ => ha, h.i⟩
end
inductive FKI (WA WB WC : World) (Pz : World → Prop) (l b0 np g gb k ty : Nat) (yy v6 v9 v10 v11 v12 v13 v14 v15 v16 v17 v18 v19 v20 v21 v22 v23 v24 v28 v45 : Value) (d : Nat → Bool) (x : Act) (wx : World) : Prop where
  | mk (u33 u34 u35 u36 u37 u38 u39 u40 u41 u42 u43 u44 : Value) (hx : x = { tmps := #[.pointer (some ⟨g, 0, none⟩), .slice (some ⟨b0, 0, none⟩) np 64, .func (.yield l) #[] #[], undef, undef, undef, v6, .int .i64 (k : Int), .iface ty yy, v9, v10, v11, v12, v13, v14, v15, v16, v17, v18, v19, v20, v21, v22, v23, v24, .pointer (some ⟨g, 0, none⟩), .pointer (some ⟨g, 0, none⟩), .pointer (some ⟨g, 1, none⟩), v28, .int .i64 (k : Int), .bool true, .int .i64 (k : Int), .iface ty yy, u33, u34, u35, u36, u37, u38, u39, u40, u41, u42, u43, u44, v45], defers := [] }) (hw : WM WA WB WC Pz (d 4) (d 5) (d 10) wx) (p0 : d 0 = true → u33 = .iface ty yy) (p1 : d 1 = true → u34 = .slice (some ⟨b0, 0, none⟩) np 64) (p2 : d 2 = true → u35 = .int .i64 (k : Int)) (p3 : d 3 = true → u36 = .int .u8 (k : Int)) (p4 : d 4 = true → u37 = .slice (some ⟨gb, 0, none⟩) 1 1) (p5 : d 5 = true → u38 = .slice (some ⟨b0, 0, none⟩) (np + 1) 64) (p6 : d 6 = true → u39 = .func (.yield l) #[] #[]) (p7 : d 7 = true → u40 = .func (.method "lampbearer/tree.walk") #[.iface ty yy] #[]) (p8 : d 8 = true → u41 = .func (.method "lampbearer/tree.walk") #[.iface ty yy] #[]) (p9 : d 9 = true → u42 = .iface ty yy) (p10 : d 10 = true → u43 = .bool true) (p11 : d 11 = true → u44 = .bool false) : FKI WA WB WC Pz l b0 np g gb k ty yy v6 v9 v10 v11 v12 v13 v14 v15 v16 v17 v18 v19 v20 v21 v22 v23 v24 v28 v45 d x wx
set_option maxHeartbeats 4000000 in
set_option maxRecDepth 100000 in
theorem walk_fork0 (l b0 np g : Nat) (c : Array Value) (w : World) (av : Option Addr) (nv cv : Nat) (JK : Nat → World → Prop) (hb : Hid (w.heap[g]? = some (.cells c 86 (0, 0)))) (hc : Hid (c.size = 17)) (ev : Hid (c.getD 0 undef = .slice av nv cv)) (hn : nv = 0) (J0 : Hid (JK 0 w))
    (HBK : Hid (∀ k wx, JK k wx → wx.heap[g]? = some (.cells c 86 (0, 0))))
    (KI : Hid (∀ k wr, k < 16 → JK k wr → ∃ ty yy WC, c.getD (k + 1) undef = .iface ty yy ∧ (∀ W : World, (nilAhead (Try.prog.types.size + Made.depth) ty yy "lampbearer/tree.walk").run Try.prog W = .ok (some false) W) ∧ (Builtin.append_ #[22, 22] 22 #[.slice (some ⟨b0, 0, none⟩) np 64, .slice (some ⟨wr.drew.heap.size, 0, none⟩) 1 1]).run Try.prog (wr.drew.alloc (.cells #[.int .u8 (k : Int)] 5)) = .ok (.slice (some ⟨b0, 0, none⟩) (np + 1) 64) WC ∧ Inv "lampbearer/tree.walk" (.iface ty yy) #[.slice (some ⟨b0, 0, none⟩) (np + 1) 64, .func (.yield l) #[] #[]] WC (fun e w' => e = .returned (.bool true) ∧ JK (k + 1) w'))) :
    Calls Try.prog 72 #[.pointer (some ⟨g, 0, none⟩), .slice (some ⟨b0, 0, none⟩) np 64, .func (.yield l) #[] #[]] w fun e w' => e = .returned (.bool true) ∧ JK 16 w' := by
  have c0 : w.cell? ⟨g, 0, none⟩ = some (.slice av nv cv) := by rw [cell_fork hb.out 0 (by have := hc.out; omega), ev.out]
  subst hn
  go_enter Try.func72, Try.ntmps72
  go_upto_region 3 with fail
  have R : w.rangeAt g 1 (c.toList.drop 1) := range16 (HBK.out _ _ J0.out) hc.out
  have RL : (Try.prog.info? 84).map (·.size) = some (c.toList.drop 1).length := by rw [info16]; have := hc.out; simp [this]
  have HX : Hid (∀ (j : Nat) (w : World), j < 16 → (Instr.index 84 (.agg (c.toList.drop 1).toArray) (.int .i64 (j : Int))).run Try.prog w = .ok (c.getD (j + 1) undef) w) := fun j w hj => run_index16 _ j _ hj (by
    have h1 : j + 1 < c.size := by have := hc.out; omega
    rw [List.getElem?_drop, Nat.add_comm]
    simp [h1]) w
  generalize c.toList.drop 1 = L at R RL HX
  go_wp2_with (refine wpList_load_mid rfl 84 (.tmp 27) rfl g 1 rfl L _ R Try.underlying84 rfl RL ?_)
  clear R RL
  go_loopw [29] (fun i wr => ∃ k : Nat, k ≤ 16 ∧ i = .int .i64 (k : Int) ∧ JK k wr) (fun i _ => ((16 : Int) - intOf i).toNat)
  case atStart => exact ⟨0, Nat.zero_le _, rfl, J0.out⟩
  case round =>
    obtain ⟨k, hk16, rfl, hJ⟩ := hrel
    by_cases hlt : k < 16
    · have d1 : decide ((k : Int) < 16) = true := decide_eq_true (by omega)
      have d2 : (0 : Int) ≤ (k : Int) := by omega
      have d3 : (k : Int) < 16 := by omega
      have hx := fun w => HX.out k w hlt
      obtain ⟨ty, yy, WC, e1, e2, e3, e4⟩ := KI.out k wr hlt hJ
      rw [e1] at hx
      have HNW : Hid (∀ W : World, (nilAhead (Try.prog.types.size + Made.depth) ty yy "lampbearer/tree.walk").run Try.prog W = .ok (some false) W) := e2
      have HAP0 : Hid ((Builtin.append_ #[22, 22] 22 #[.slice (some ⟨b0, 0, none⟩) np 64, .slice (some ⟨wr.drew.heap.size, 0, none⟩) 1 1]).run Try.prog (wr.drew.alloc (.cells #[.int .u8 (k : Int)] 5)) = .ok (.slice (some ⟨b0, 0, none⟩) (np + 1) 64) WC) := e3
      have KI2 : Hid (Inv "lampbearer/tree.walk" (.iface ty yy) #[.slice (some ⟨b0, 0, none⟩) (np + 1) 64, .func (.yield l) #[] #[]] WC (fun e w' => e = .returned (.bool true) ∧ JK (k + 1) w')) := e4
      have HC8 : Hid (IntKind.u8.wrap (k : Int) = (k : Int)) := u8w k (by omega)
      clear e1 e2 e3 e4 KI hJ
      go_upto_region 6 with fail
      have hw0 : WM wr.drew (wr.drew.alloc (.cells #[.int .u8 (k : Int)] 5)) WC (JK (k + 1)) false false false wr.drew := ⟨fun _ => rfl, fun e => (by cases e), fun e => (by cases e), fun e => (by cases e), fun e => (by cases e), fun e => (by cases e)⟩
      have HAP : Hid ((Builtin.append_ #[22, 22] 22 #[.slice (some ⟨b0, 0, none⟩) np 64, .slice (some ⟨wr.heap.size, 0, none⟩) 1 1]).run Try.prog (wr.drew.alloc (.cells #[.int .u8 (k : Int)] 5)) = .ok (.slice (some ⟨b0, 0, none⟩) (np + 1) 64) WC) := HAP0.out
      clear HAP0 hx d1 d2 d3
      refine RI.wp_region_inv (FKI wr.drew (wr.drew.alloc (.cells #[.int .u8 (k : Int)] 5)) WC (JK (k + 1)) l b0 np g wr.heap.size k ty yy u6 (.pointer (some ⟨g, 0, none⟩)) (.pointer (some ⟨g, 0, none⟩)) (.pointer (some ⟨g, 0, none⟩)) (.slice av 0 cv) (.int .i64 0) (.bool false) (.bool false) undef undef undef undef undef undef undef undef (.bool false) (.agg L.toArray) u45) (by kernel_rfl) (by kernel_rfl) ?_ ?_ ?_
      · exact ⟨u33, u34, u35, u36, u37, u38, u39, u40, u41, u42, u43, u44, rfl, hw0, nofun, nofun, nofun, nofun, nofun, nofun, nofun, nofun, nofun, nofun, nofun, nofun⟩
      · skip
        intro d x wx i hI hi hm
        obtain ⟨u33, u34, u35, u36, u37, u38, u39, u40, u41, u42, u43, u44, rfl, hw, p0, p1, p2, p3, p4, p5, p6, p7, p8, p9, p10, p11⟩ := hI
        have hi' : i = 0 ∨ i = 1 ∨ i = 2 ∨ i = 3 ∨ i = 4 ∨ i = 5 ∨ i = 6 ∨ i = 7 ∨ i = 8 ∨ i = 9 ∨ i = 10 ∨ i = 11 := by simp at hi; omega
        have hd := hm.2
        have hf := hm.1
        clear hm hi
        rcases hi' with rfl | rfl | rfl | rfl | rfl | rfl | rfl | rfl | rfl | rfl | rfl | rfl
        · refine RI.wpOp_plain rfl rfl ?_
          go_simp
          exact ⟨_, u34, u35, u36, u37, u38, u39, u40, u41, u42, u43, u44, rfl, hw, fun _ => rfl, p1, p2, p3, p4, p5, p6, p7, p8, p9, p10, p11⟩
        · refine RI.wpOp_plain rfl rfl ?_
          go_simp
          exact ⟨u33, _, u35, u36, u37, u38, u39, u40, u41, u42, u43, u44, rfl, hw, p0, fun _ => rfl, p2, p3, p4, p5, p6, p7, p8, p9, p10, p11⟩
        · refine RI.wpOp_plain rfl rfl ?_
          go_simp
          exact ⟨u33, u34, _, u36, u37, u38, u39, u40, u41, u42, u43, u44, rfl, hw, p0, p1, fun _ => rfl, p3, p4, p5, p6, p7, p8, p9, p10, p11⟩
        · have hd := hd _ rfl
          simp [Region.binds] at hd
          obtain rfl := p2 (by simp [hd])
          refine RI.wpOp_plain rfl rfl ?_
          have e3 := HC8.out
          go_simp
          exact ⟨u33, u34, _, _, u37, u38, u39, u40, u41, u42, u43, u44, rfl, hw, p0, p1, p2, fun _ => rfl, p4, p5, p6, p7, p8, p9, p10, p11⟩
        · have hd := hd _ rfl
          simp [Region.binds] at hd
          obtain rfl := p3 (by simp [hd])
          refine RI.wpOp_plain rfl rfl ?_
          obtain rfl := hw.a hf
          go_simp
          exact ⟨u33, u34, u35, _, _, u38, u39, u40, u41, u42, u43, u44, rfl, hw.sb hf, p0, p1, p2, p3, fun _ => rfl, p5, p6, p7, p8, p9, p10, p11⟩
        · have hd := hd _ rfl
          simp [Region.binds] at hd
          obtain rfl := p1 (by simp [hd])
          obtain rfl := p4 (by simp [hd])
          refine RI.wpOp_plain rfl rfl ?_
          obtain rfl := hw.b (by simp [hd]) hf
          refine wp_ap rfl rfl rfl HAP.out ?_
          simp only [Act.put]
          exact ⟨u33, _, u35, u36, _, _, u39, u40, u41, u42, u43, u44, rfl, hw.sa hf (by simp [hd]), p0, p1, p2, p3, p4, fun _ => rfl, p6, p7, p8, p9, p10, p11⟩
        · refine RI.wpOp_plain rfl rfl ?_
          go_simp
          exact ⟨u33, u34, u35, u36, u37, u38, _, u40, u41, u42, u43, u44, rfl, hw, p0, p1, p2, p3, p4, p5, fun _ => rfl, p7, p8, p9, p10, p11⟩
        · have hd := hd _ rfl
          simp [Region.binds] at hd
          obtain rfl := p0 (by simp [hd])
          refine RI.wpOp_plain rfl rfl ?_
          go_simp
          exact ⟨_, u34, u35, u36, u37, u38, u39, _, u41, u42, u43, u44, rfl, hw, p0, p1, p2, p3, p4, p5, p6, fun _ => rfl, p8, p9, p10, p11⟩
        · have hd := hd _ rfl
          simp [Region.binds] at hd
          obtain rfl := p7 (by simp [hd])
          refine RI.wpOp_plain rfl rfl ?_
          refine wp_nilw rfl rfl (HNW.out _) ?_
          simp only [Act.put]
          exact ⟨u33, u34, u35, u36, u37, u38, u39, _, _, u42, u43, u44, rfl, hw, p0, p1, p2, p3, p4, p5, p6, p7, fun _ => rfl, p9, p10, p11⟩
        · have hd := hd _ rfl
          simp [Region.binds] at hd
          obtain rfl := p0 (by simp [hd])
          obtain rfl := p7 (by simp [hd])
          obtain rfl := p8 (by simp [hd])
          refine RI.wpOp_plain rfl rfl ?_
          go_simp
          exact ⟨_, u34, u35, u36, u37, u38, u39, _, _, _, u43, u44, rfl, hw, p0, p1, p2, p3, p4, p5, p6, p7, p8, fun _ => rfl, p10, p11⟩
        · have hd := hd _ rfl
          simp [Region.binds] at hd
          obtain rfl := p5 (by simp [hd])
          obtain rfl := p6 (by simp [hd])
          obtain rfl := p9 (by simp [hd])
          refine RI.wpOp_plain rfl rfl ?_
          obtain rfl := hw.c (by simp [hd]) hf
          refine wp_inv (xv := .iface ty yy) (vs := #[.slice (some ⟨b0, 0, none⟩) (np + 1) 64, .func (.yield l) #[] #[]]) rfl rfl (by simp only [List.map_toArray, List.map_cons, List.map_nil]; rfl) (KI2.out.mono ?_)
          rintro e w1 ⟨rfl, hz⟩
          refine ⟨_, rfl, ?_⟩
          simp only [Act.put]
          exact ⟨u33, u34, u35, u36, u37, _, _, u40, u41, _, _, u44, rfl, hw.sc (by simp [hd]) hz, p0, p1, p2, p3, p4, p5, p6, p7, p8, p9, fun _ => rfl, p11⟩
        · have hd := hd _ rfl
          simp [Region.binds] at hd
          obtain rfl := p10 (by simp [hd])
          refine RI.wpOp_plain rfl rfl ?_
          go_simp
          exact ⟨u33, u34, u35, u36, u37, u38, u39, u40, u41, u42, _, _, rfl, hw, p0, p1, p2, p3, p4, p5, p6, p7, p8, p9, p10, fun _ => rfl⟩
      · skip
        intro d x wx hI hd
        obtain ⟨u33, u34, u35, u36, u37, u38, u39, u40, u41, u42, u43, u44, rfl, hw, p0, p1, p2, p3, p4, p5, p6, p7, p8, p9, p10, p11⟩ := hI
        obtain rfl := p11 (hd 11 (by decide))
        have HZ : Hid (JK (k + 1) wx) := hw.z (hd 10 (by decide))
        clear hw p0 p1 p2 p3 p4 p5 p6 p7 p8 p9 p10 hd
        go_wp2_with fail
        exact ⟨⟨k + 1, hlt, by rw [Int.natCast_succ], HZ.out⟩, by simp only [intOf]; omega⟩
    · have d1 : decide ((k : Int) < 16) = false := decide_eq_false (by omega)
      have ek : k = 16 := by omega
      subst ek
      have HZ : Hid (JK 16 wr) := hJ
      clear hJ KI HX
      go_wp2_with fail
      go_ret
      exact ⟨rfl, HZ.out⟩
set_option maxHeartbeats 4000000 in
set_option maxRecDepth 100000 in
theorem walk_fork1 (l b0 np g : Nat) (c : Array Value) (w : World) (av : Option Addr) (nv cv : Nat) (JK : Nat → World → Prop) (hb : Hid (w.heap[g]? = some (.cells c 86 (0, 0)))) (hc : Hid (c.size = 17)) (ev : Hid (c.getD 0 undef = .slice av nv cv)) (hn : 0 < nv) (KY : Hid (YieldAt Fence.wide 0 Try.prog l #[.slice (some ⟨b0, 0, none⟩) np 64, .slice av nv cv] w fun e w' => e = .returned (.bool true) ∧ JK 0 w'))
    (HBK : Hid (∀ k wx, JK k wx → wx.heap[g]? = some (.cells c 86 (0, 0))))
    (KI : Hid (∀ k wr, k < 16 → JK k wr → ∃ ty yy WC, c.getD (k + 1) undef = .iface ty yy ∧ (∀ W : World, (nilAhead (Try.prog.types.size + Made.depth) ty yy "lampbearer/tree.walk").run Try.prog W = .ok (some false) W) ∧ (Builtin.append_ #[22, 22] 22 #[.slice (some ⟨b0, 0, none⟩) np 64, .slice (some ⟨wr.drew.heap.size, 0, none⟩) 1 1]).run Try.prog (wr.drew.alloc (.cells #[.int .u8 (k : Int)] 5)) = .ok (.slice (some ⟨b0, 0, none⟩) (np + 1) 64) WC ∧ Inv "lampbearer/tree.walk" (.iface ty yy) #[.slice (some ⟨b0, 0, none⟩) (np + 1) 64, .func (.yield l) #[] #[]] WC (fun e w' => e = .returned (.bool true) ∧ JK (k + 1) w'))) :
    Calls Try.prog 72 #[.pointer (some ⟨g, 0, none⟩), .slice (some ⟨b0, 0, none⟩) np 64, .func (.yield l) #[] #[]] w fun e w' => e = .returned (.bool true) ∧ JK 16 w' := by
  have c0 : w.cell? ⟨g, 0, none⟩ = some (.slice av nv cv) := by rw [cell_fork hb.out 0 (by have := hc.out; omega), ev.out]
  have t0 : decide ((0 : Int) < (nv : Int)) = true := decide_eq_true (by omega)
  have t1 : decide (0 < nv) = true := decide_eq_true hn
  obtain ⟨fn, tmps, assign, body, hy, hR0⟩ := KY.out
  have hR : RoundIn Fence.wide 0 Try.prog l fn tmps assign body w fun e w' => e = .returned (.bool true) ∧ JK 0 w' := hR0
  clear hR0 KY
  go_enter Try.func72, Try.ntmps72
  go_upto_region 1 with fail
  refine (wpIn_wide (n := 1)).1 ?_
  gi_wp2
  refine hR.mono ?_
  rintro e w1 ⟨rfl, hj⟩
  have J0 : Hid (JK 0 w1) := hj
  clear hj hR hy
  gi_wp2
  go_upto_region 3 with fail
  have R : w1.rangeAt g 1 (c.toList.drop 1) := range16 (HBK.out _ _ J0.out) hc.out
  have RL : (Try.prog.info? 84).map (·.size) = some (c.toList.drop 1).length := by rw [info16]; have := hc.out; simp [this]
  have HX : Hid (∀ (j : Nat) (w : World), j < 16 → (Instr.index 84 (.agg (c.toList.drop 1).toArray) (.int .i64 (j : Int))).run Try.prog w = .ok (c.getD (j + 1) undef) w) := fun j w hj => run_index16 _ j _ hj (by
    have h1 : j + 1 < c.size := by have := hc.out; omega
    rw [List.getElem?_drop, Nat.add_comm]
    simp [h1]) w
  generalize c.toList.drop 1 = L at R RL HX
  go_wp2_with (refine wpList_load_mid rfl 84 (.tmp 27) rfl g 1 rfl L _ R Try.underlying84 rfl RL ?_)
  clear R RL
  go_loopw [29] (fun i wr => ∃ k : Nat, k ≤ 16 ∧ i = .int .i64 (k : Int) ∧ JK k wr) (fun i _ => ((16 : Int) - intOf i).toNat)
  case atStart => exact ⟨0, Nat.zero_le _, rfl, J0.out⟩
  case round =>
    obtain ⟨k, hk16, rfl, hJ⟩ := hrel
    by_cases hlt : k < 16
    · have d1 : decide ((k : Int) < 16) = true := decide_eq_true (by omega)
      have d2 : (0 : Int) ≤ (k : Int) := by omega
      have d3 : (k : Int) < 16 := by omega
      have hx := fun w => HX.out k w hlt
      obtain ⟨ty, yy, WC, e1, e2, e3, e4⟩ := KI.out k wr hlt hJ
      rw [e1] at hx
      have HNW : Hid (∀ W : World, (nilAhead (Try.prog.types.size + Made.depth) ty yy "lampbearer/tree.walk").run Try.prog W = .ok (some false) W) := e2
      have HAP0 : Hid ((Builtin.append_ #[22, 22] 22 #[.slice (some ⟨b0, 0, none⟩) np 64, .slice (some ⟨wr.drew.heap.size, 0, none⟩) 1 1]).run Try.prog (wr.drew.alloc (.cells #[.int .u8 (k : Int)] 5)) = .ok (.slice (some ⟨b0, 0, none⟩) (np + 1) 64) WC) := e3
      have KI2 : Hid (Inv "lampbearer/tree.walk" (.iface ty yy) #[.slice (some ⟨b0, 0, none⟩) (np + 1) 64, .func (.yield l) #[] #[]] WC (fun e w' => e = .returned (.bool true) ∧ JK (k + 1) w')) := e4
      have HC8 : Hid (IntKind.u8.wrap (k : Int) = (k : Int)) := u8w k (by omega)
      clear e1 e2 e3 e4 KI hJ
      go_upto_region 6 with fail
      have hw0 : WM wr.drew (wr.drew.alloc (.cells #[.int .u8 (k : Int)] 5)) WC (JK (k + 1)) false false false wr.drew := ⟨fun _ => rfl, fun e => (by cases e), fun e => (by cases e), fun e => (by cases e), fun e => (by cases e), fun e => (by cases e)⟩
      have HAP : Hid ((Builtin.append_ #[22, 22] 22 #[.slice (some ⟨b0, 0, none⟩) np 64, .slice (some ⟨wr.heap.size, 0, none⟩) 1 1]).run Try.prog (wr.drew.alloc (.cells #[.int .u8 (k : Int)] 5)) = .ok (.slice (some ⟨b0, 0, none⟩) (np + 1) 64) WC) := HAP0.out
      clear HAP0 hx d1 d2 d3
      refine RI.wp_region_inv (FKI wr.drew (wr.drew.alloc (.cells #[.int .u8 (k : Int)] 5)) WC (JK (k + 1)) l b0 np g wr.heap.size k ty yy u6 (.pointer (some ⟨g, 0, none⟩)) (.pointer (some ⟨g, 0, none⟩)) (.pointer (some ⟨g, 0, none⟩)) (.slice av nv cv) (.int .i64 (nv : Int)) (.bool true) (.bool true) (.func (.yield l) #[] #[]) (.slice (some ⟨b0, 0, none⟩) np 64) (.pointer (some ⟨g, 0, none⟩)) (.pointer (some ⟨g, 0, none⟩)) (.pointer (some ⟨g, 0, none⟩)) (.slice av nv cv) (.bool true) (.bool false) (.bool false) (.agg L.toArray) u45) (by kernel_rfl) (by kernel_rfl) ?_ ?_ ?_
      · exact ⟨u33, u34, u35, u36, u37, u38, u39, u40, u41, u42, u43, u44, rfl, hw0, nofun, nofun, nofun, nofun, nofun, nofun, nofun, nofun, nofun, nofun, nofun, nofun⟩
      · skip
        intro d x wx i hI hi hm
        obtain ⟨u33, u34, u35, u36, u37, u38, u39, u40, u41, u42, u43, u44, rfl, hw, p0, p1, p2, p3, p4, p5, p6, p7, p8, p9, p10, p11⟩ := hI
        have hi' : i = 0 ∨ i = 1 ∨ i = 2 ∨ i = 3 ∨ i = 4 ∨ i = 5 ∨ i = 6 ∨ i = 7 ∨ i = 8 ∨ i = 9 ∨ i = 10 ∨ i = 11 := by simp at hi; omega
        have hd := hm.2
        have hf := hm.1
        clear hm hi
        rcases hi' with rfl | rfl | rfl | rfl | rfl | rfl | rfl | rfl | rfl | rfl | rfl | rfl
        · refine RI.wpOp_plain rfl rfl ?_
          go_simp
          exact ⟨_, u34, u35, u36, u37, u38, u39, u40, u41, u42, u43, u44, rfl, hw, fun _ => rfl, p1, p2, p3, p4, p5, p6, p7, p8, p9, p10, p11⟩
        · refine RI.wpOp_plain rfl rfl ?_
          go_simp
          exact ⟨u33, _, u35, u36, u37, u38, u39, u40, u41, u42, u43, u44, rfl, hw, p0, fun _ => rfl, p2, p3, p4, p5, p6, p7, p8, p9, p10, p11⟩
        · refine RI.wpOp_plain rfl rfl ?_
          go_simp
          exact ⟨u33, u34, _, u36, u37, u38, u39, u40, u41, u42, u43, u44, rfl, hw, p0, p1, fun _ => rfl, p3, p4, p5, p6, p7, p8, p9, p10, p11⟩
        · have hd := hd _ rfl
          simp [Region.binds] at hd
          obtain rfl := p2 (by simp [hd])
          refine RI.wpOp_plain rfl rfl ?_
          have e3 := HC8.out
          go_simp
          exact ⟨u33, u34, _, _, u37, u38, u39, u40, u41, u42, u43, u44, rfl, hw, p0, p1, p2, fun _ => rfl, p4, p5, p6, p7, p8, p9, p10, p11⟩
        · have hd := hd _ rfl
          simp [Region.binds] at hd
          obtain rfl := p3 (by simp [hd])
          refine RI.wpOp_plain rfl rfl ?_
          obtain rfl := hw.a hf
          go_simp
          exact ⟨u33, u34, u35, _, _, u38, u39, u40, u41, u42, u43, u44, rfl, hw.sb hf, p0, p1, p2, p3, fun _ => rfl, p5, p6, p7, p8, p9, p10, p11⟩
        · have hd := hd _ rfl
          simp [Region.binds] at hd
          obtain rfl := p1 (by simp [hd])
          obtain rfl := p4 (by simp [hd])
          refine RI.wpOp_plain rfl rfl ?_
          obtain rfl := hw.b (by simp [hd]) hf
          refine wp_ap rfl rfl rfl HAP.out ?_
          simp only [Act.put]
          exact ⟨u33, _, u35, u36, _, _, u39, u40, u41, u42, u43, u44, rfl, hw.sa hf (by simp [hd]), p0, p1, p2, p3, p4, fun _ => rfl, p6, p7, p8, p9, p10, p11⟩
        · refine RI.wpOp_plain rfl rfl ?_
          go_simp
          exact ⟨u33, u34, u35, u36, u37, u38, _, u40, u41, u42, u43, u44, rfl, hw, p0, p1, p2, p3, p4, p5, fun _ => rfl, p7, p8, p9, p10, p11⟩
        · have hd := hd _ rfl
          simp [Region.binds] at hd
          obtain rfl := p0 (by simp [hd])
          refine RI.wpOp_plain rfl rfl ?_
          go_simp
          exact ⟨_, u34, u35, u36, u37, u38, u39, _, u41, u42, u43, u44, rfl, hw, p0, p1, p2, p3, p4, p5, p6, fun _ => rfl, p8, p9, p10, p11⟩
        · have hd := hd _ rfl
          simp [Region.binds] at hd
          obtain rfl := p7 (by simp [hd])
          refine RI.wpOp_plain rfl rfl ?_
          refine wp_nilw rfl rfl (HNW.out _) ?_
          simp only [Act.put]
          exact ⟨u33, u34, u35, u36, u37, u38, u39, _, _, u42, u43, u44, rfl, hw, p0, p1, p2, p3, p4, p5, p6, p7, fun _ => rfl, p9, p10, p11⟩
        · have hd := hd _ rfl
          simp [Region.binds] at hd
          obtain rfl := p0 (by simp [hd])
          obtain rfl := p7 (by simp [hd])
          obtain rfl := p8 (by simp [hd])
          refine RI.wpOp_plain rfl rfl ?_
          go_simp
          exact ⟨_, u34, u35, u36, u37, u38, u39, _, _, _, u43, u44, rfl, hw, p0, p1, p2, p3, p4, p5, p6, p7, p8, fun _ => rfl, p10, p11⟩
        · have hd := hd _ rfl
          simp [Region.binds] at hd
          obtain rfl := p5 (by simp [hd])
          obtain rfl := p6 (by simp [hd])
          obtain rfl := p9 (by simp [hd])
          refine RI.wpOp_plain rfl rfl ?_
          obtain rfl := hw.c (by simp [hd]) hf
          refine wp_inv (xv := .iface ty yy) (vs := #[.slice (some ⟨b0, 0, none⟩) (np + 1) 64, .func (.yield l) #[] #[]]) rfl rfl (by simp only [List.map_toArray, List.map_cons, List.map_nil]; rfl) (KI2.out.mono ?_)
          rintro e w1 ⟨rfl, hz⟩
          refine ⟨_, rfl, ?_⟩
          simp only [Act.put]
          exact ⟨u33, u34, u35, u36, u37, _, _, u40, u41, _, _, u44, rfl, hw.sc (by simp [hd]) hz, p0, p1, p2, p3, p4, p5, p6, p7, p8, p9, fun _ => rfl, p11⟩
        · have hd := hd _ rfl
          simp [Region.binds] at hd
          obtain rfl := p10 (by simp [hd])
          refine RI.wpOp_plain rfl rfl ?_
          go_simp
          exact ⟨u33, u34, u35, u36, u37, u38, u39, u40, u41, u42, _, _, rfl, hw, p0, p1, p2, p3, p4, p5, p6, p7, p8, p9, p10, fun _ => rfl⟩
      · skip
        intro d x wx hI hd
        obtain ⟨u33, u34, u35, u36, u37, u38, u39, u40, u41, u42, u43, u44, rfl, hw, p0, p1, p2, p3, p4, p5, p6, p7, p8, p9, p10, p11⟩ := hI
        obtain rfl := p11 (hd 11 (by decide))
        have HZ : Hid (JK (k + 1) wx) := hw.z (hd 10 (by decide))
        clear hw p0 p1 p2 p3 p4 p5 p6 p7 p8 p9 p10 hd
        go_wp2_with fail
        exact ⟨⟨k + 1, hlt, by rw [Int.natCast_succ], HZ.out⟩, by simp only [intOf]; omega⟩
    · have d1 : decide ((k : Int) < 16) = false := decide_eq_false (by omega)
      have ek : k = 16 := by omega
      subst ek
      have HZ : Hid (JK 16 wr) := hJ
      clear hJ KI HX
      go_wp2_with fail
      go_ret
      exact ⟨rfl, HZ.out⟩
end Tr
end Go.Proofs.Ytdcbgldelfhohab
/- walk of every tree. -/
namespace Go.Proofs.Ytdcbgldelfhohab
namespace Tr
open Nb Go.RowKit
theorem rtk_pre : ∀ (ks : List Nd) (i k : Nat) (L : Rt), rtk i ks = some L → ∃ A B, rtk i (ks.take k) = some A ∧ L = A ++ B
  | [], i, k, L, h => by
    unfold rtk at h
    cases h
    exact ⟨[], [], by rw [List.take_nil]; unfold rtk; rfl, rfl⟩
  | t :: r, i, 0, L, h => ⟨[], L, by unfold rtk; rfl, rfl⟩
  | t :: r, i, k + 1, L, h => by
    unfold rtk at h
    cases ha : rt t with
    | none => rw [ha] at h; cases h
    | some a =>
      rw [ha] at h
      cases hb : rtk (i + 1) r with
      | none => rw [hb] at h; cases h
      | some b =>
        rw [hb] at h
        cases h
        obtain ⟨A, B, h1, rfl⟩ := rtk_pre r (i + 1) k b hb
        refine ⟨pre [UInt8.ofNat i] a ++ A, B, ?_, by rw [List.append_assoc]⟩
        rw [List.take_succ_cons]
        unfold rtk
        rw [ha, h1]
theorem pt_one {k : Nat} (h : k < 16) : Pt [UInt8.ofNat k] := fun c hc => by
  rw [List.mem_singleton.1 hc, u8_toNat k h]; exact h
theorem okp_pre {p q : By} {m : Rt} (h : Okp p (pre q m)) : Okp (p ++ q) m := fun r hr => by
  have := h (q ++ r.1, r.2) (List.mem_map.2 ⟨r, hr, rfl⟩)
  rwa [← List.append_assoc] at this
theorem Bs_n0 {lo n0 : Nat} {b : By} {v : Value} {W0 : World} (h : Bs (Sb lo W0) b v W0) (hs : W0.heap.size = n0) : Bs (· < n0) b v W0 := Bs_mono h (fun k _ hk => by show k < n0; omega)
theorem yd_mono {F : Fence} {m : Nat} {P : Program} {l : Nat} {args : Array Value} {W : World} {R R' : Ending → World → Prop} (h : YieldAt F m P l args W R) (hm : ∀ e w', R e w' → R' e w') : YieldAt F m P l args W R' := by
  obtain ⟨fn, tmps, assign, body, h1, h2⟩ := h
  exact ⟨fn, tmps, assign, body, h1, h2.mono hm⟩
set_option maxHeartbeats 1000000 in
theorem walk_all {l n0 b0 N : Nat} {W0 : World} {J : Rt → World → Prop} (hY : Yd l n0 b0 N W0 J) {lo : Nat} {t : Nd} {y : Value} {F : Nat → Prop} (ht : In lo W0 t y F) : Rs t → ∀ m, rt t = some m → ∀ (p : By) (s : Rt) (W : World), Pt p → Okp p m → J s W → Bf b0 p W → Below n0 W0 W → s.length + m.length ≤ N →
    Inv "lampbearer/tree.walk" y #[.slice (some ⟨b0, 0, none⟩) p.length 64, .func (.yield l) #[] #[]] W (WP n0 b0 J s p m W) := by
  have hb0 := hY.hb
  have hsz := hY.sz
  induction ht with
  | none a v ks F =>
    intro _ m hm p s W _ _ hJ hB hbl _
    have em : m = [] := by
      unfold rt at hm
      rw [if_neg (fun h => by rcases h.1 with h | h <;> exact absurd h (by decide)), if_pos rfl] at hm
      cases hm; rfl
    subst em
    refine ⟨_, _, fun W => wk_none _ _ _ W, (walk_none _ _ W).mono fun e w' he => ?_⟩
    refine ⟨he.1, ?_, Bf_blk hB (he.2.block _ (Bf_lt hB)), he.2.mono (by have := hbl.size; omega)⟩
    rw [show pre p [] = [] from rfl, List.append_nil]
    exact hY.ab s W w' hJ (bl_gb he.2)
  | leaf a v ks av vv F ha hv =>
    intro hs m hm p s W hp hok hJ hB hbl hN
    cases hs with
    | leaf _ _ _ hpa hlv =>
      have em : m = [(a, v)] := by
        unfold rt at hm
        rw [if_neg (fun h => by rw [(ptb_iff a).2 hpa] at h; cases h.2), if_neg (by decide), if_pos rfl] at hm
        cases hm; rfl
      subst em
      obtain ⟨k1, k2, k3⟩ := hok (a, v) (List.mem_singleton.2 rfl)
      dsimp only at k1 k2 k3
      obtain ⟨aa, ca, rfl, _⟩ := Bs_form ha
      obtain ⟨a3, c3, rfl, _⟩ := Bs_form hv
      have hA := Bs_n0 ha hsz
      have hV := Bs_n0 hv hsz
      have bX : Below W.heap.size W (W.alloc (.cells #[.slice aa a.length ca, .slice a3 v.length c3] 67)).drew := ((Below.refl _ _).alloc (Nat.le_refl _) _).drew
      have bX0 := hbl.trans (bX.mono (by have := hbl.size; omega))
      obtain ⟨WC, hr, hf, hg⟩ := Bf_app 22 (Bf_blk hB (bX.block _ (Bf_lt hB))) (Bs_blw hA bX0) (by rw [← List.length_append]; exact k1)
      have hWC := gb_trans (bl_gb (b0 := b0) bX) hg
      have bC : Below n0 W WC := gb_bl hWC hb0 (by have := hbl.size; omega)
      have bC0 := hbl.trans bC
      refine ⟨_, _, fun W => wk_leaf _ _ _ W, (walk_leaf l b0 p.length (p ++ a).length aa a3 a.length ca v.length c3 W WC (fun w' => J (s ++ [(p ++ a, v)]) w' ∧ Below n0 WC w' ∧ w'.heap[b0]? = WC.heap[b0]?) hr hg (Bf_lt hB) ?_).mono fun e w' he => ?_⟩
      · exact hY.yd s (p ++ a) v _ WC (hY.ab s W WC hJ hWC) hf k1 k2 (pt_app hp hpa) (Bs_blw hV bC0) hlv k3 bC0 (by simp at hN; omega)
      · refine ⟨he.1, ?_, Bf_pre (Bf_blk hf he.2.2.2), bC.trans he.2.2.1⟩
        exact he.2.1
  | road a v t av g F ha hk ih =>
    intro hs m hm p s W hp hok hJ hB hbl hN
    cases hs with
    | road _ _ _ hpa ha0 hk3 hst =>
      rw [rt_two a v t hpa] at hm
      obtain ⟨m', hm', rfl⟩ := Option.map_eq_some_iff.1 hm
      have hok' := okp_pre hok
      obtain ⟨aa, ca, rfl, _⟩ := Bs_form ha
      have hA := Bs_n0 ha hsz
      have hlen : p.length + a.length ≤ 64 := by
        obtain ⟨q, _, hq, _⟩ := fork_two hst hk3
        have h1 := (rt_spec hm').2.2 q
        obtain ⟨r, hr, rfl⟩ := lk_in (l := m') (q := q) (by rw [h1]; exact hq)
        have := (hok' r hr).1
        rw [List.length_append, List.length_append] at this
        omega
      have bX : Below W.heap.size W (W.alloc (.cells #[.slice aa a.length ca, .pointer (some ⟨g, 0, Option.none⟩)] 75)).drew := ((Below.refl _ _).alloc (Nat.le_refl _) _).drew
      have bX0 := hbl.trans (bX.mono (by have := hbl.size; omega))
      obtain ⟨WC, hr, hf, hg⟩ := Bf_app 22 (Bf_blk hB (bX.block _ (Bf_lt hB))) (Bs_blw hA bX0) hlen
      have hWC := gb_trans (bl_gb (b0 := b0) bX) hg
      have bC : Below n0 W WC := gb_bl hWC hb0 (by have := hbl.size; omega)
      have bC0 := hbl.trans bC
      refine ⟨_, _, fun W => wk_road _ _ _ W, (walk_road l b0 p.length (p ++ a).length g aa a.length ca W WC (fun w' => J (s ++ pre (p ++ a) m') w' ∧ Bf b0 (p ++ a) w' ∧ Below n0 WC w') hr hg (Bf_lt hB) ?_).mono fun e w' he => ?_⟩
      · obtain ⟨f, vs, j1, j2⟩ := ih hst m' hm' (p ++ a) s WC (pt_app hp hpa) hok' (hY.ab s W WC hJ hWC) hf bC0 (by simpa [pre] using hN)
        have j3 := (j1 W).symm.trans (wk_fork (some ⟨g, 0, Option.none⟩) _ _ W)
        injection j3 with j3 _
        injection j3 with j4 j5
        subst j4 j5
        exact j2
      · refine ⟨he.1, ?_, Bf_pre he.2.2.1, bC.trans he.2.2.2⟩
        rw [pre_pre]
        exact he.2.1
  | fork a v ks g c F D hl16 hlo hb hc hFg hv hi hg hD hs' ih =>
    intro hs m hm p s W hp hok hJ hB hbl hN
    have hrs := hs
    cases hs with
    | fork _ _ _ _ hks h2 =>
      have hsp := (rt_spec hm).2.2
      have hlen : p.length + 1 ≤ 64 := by
        obtain ⟨q, r, hq, hr, _, hne⟩ := fork_two hrs rfl
        have key : ∀ q, gt (.mk 3 a v ks) q ≠ [] → p.length + q.length ≤ 64 := fun q hq => by
          obtain ⟨x, hx, rfl⟩ := lk_in (l := m) (q := q) (by rw [hsp q]; exact hq)
          have := (hok x hx).1
          rwa [List.length_append] at this
        have k1 := key q hq
        have k2 := key r hr
        rcases Nat.eq_zero_or_pos q.length with h0 | h0
        · rcases Nat.eq_zero_or_pos r.length with h1 | h1
          · exact absurd ((List.length_eq_zero_iff.1 h0).trans (List.length_eq_zero_iff.1 h1).symm) hne
          · omega
        · omega
      rw [rt_three a v ks hl16] at hm
      obtain ⟨La, hLa, rfl⟩ := Option.map_eq_some_iff.1 hm
      have hgn : g < n0 := by have := Pk.lt_of_heap hb; omega
      obtain ⟨av, cv, ev, _⟩ := Bs_form hv
      have hV := Bs_n0 hv hsz
      rw [ev] at hV
      have hbW : W.heap[g]? = some (.cells c 86 (0, 0)) := (hbl.block g hgn).trans hb
      have HBK : ∀ k wx, (∃ L, rtk 0 (ks.take k) = some L ∧ J (s ++ pre p ((if v = [] then [] else [([], v)]) ++ L)) wx ∧ Bf b0 p wx ∧ Below n0 W wx) → wx.heap[g]? = some (.cells c 86 (0, 0)) := fun k wx h => by
        obtain ⟨_, _, _, _, h4⟩ := h
        exact (h4.block g hgn).trans hbW
      have KI : ∀ k wr, k < 16 → (∃ L, rtk 0 (ks.take k) = some L ∧ J (s ++ pre p ((if v = [] then [] else [([], v)]) ++ L)) wr ∧ Bf b0 p wr ∧ Below n0 W wr) → ∃ ty yy WC, c.getD (k + 1) undef = .iface ty yy ∧ (∀ W : World, (nilAhead (Try.prog.types.size + Made.depth) ty yy "lampbearer/tree.walk").run Try.prog W = .ok (some false) W) ∧ (Builtin.append_ #[22, 22] 22 #[.slice (some ⟨b0, 0, Option.none⟩) p.length 64, .slice (some ⟨wr.drew.heap.size, 0, Option.none⟩) 1 1]).run Try.prog (wr.drew.alloc (.cells #[.int .u8 (k : Int)] 5)) = .ok (.slice (some ⟨b0, 0, Option.none⟩) (p.length + 1) 64) WC ∧ Inv "lampbearer/tree.walk" (.iface ty yy) #[.slice (some ⟨b0, 0, Option.none⟩) (p.length + 1) 64, .func (.yield l) #[] #[]] WC (fun e w' => e = .returned (.bool true) ∧ ∃ L, rtk 0 (ks.take (k + 1)) = some L ∧ J (s ++ pre p ((if v = [] then [] else [([], v)]) ++ L)) w' ∧ Bf b0 p w' ∧ Below n0 W w') := by
        intro k wr hk ⟨L, hL, hJr, hBr, hbr⟩
        obtain ⟨ty, yy, ey⟩ := In_form (hi k hk)
        obtain ⟨mk, hmk, _⟩ := rt_some (hks k hk)
        have hL2 := rtk_take ks k (by omega) L mk hL hmk
        obtain ⟨A, B, hA, hAB⟩ := rtk_pre ks 0 (k + 1) La hLa
        rw [hL2] at hA
        cases hA
        have hsub : ∀ r ∈ pre [UInt8.ofNat k] mk, r ∈ (if v = [] then [] else [([], v)]) ++ La := fun r hr => by
          rw [hAB]
          exact List.mem_append_right _ (List.mem_append_left _ (List.mem_append_right _ hr))
        have hokk : Okp (p ++ [UInt8.ofNat k]) mk := okp_pre (fun r hr => hok r (hsub r hr))
        have bX : Below wr.heap.size wr (wr.drew.alloc (.cells #[.int .u8 (k : Int)] 5)) := ((Below.refl _ _).drew).alloc (Nat.le_refl _) _
        have hbs : Bs (fun _ => True) [UInt8.ofNat k] (.slice (some ⟨wr.drew.heap.size, 0, Option.none⟩) 1 1) (wr.drew.alloc (.cells #[.int .u8 (k : Int)] 5)) := sl_bs trivial (lit_b k hk wr.drew)
        obtain ⟨WC, hr, hf, hg2⟩ := Bf_app 22 (Bf_blk hBr (bX.block _ (Bf_lt hBr))) hbs (by show _ + 1 ≤ 64; exact hlen)
        have hWC := gb_trans (bl_gb (b0 := b0) bX) hg2
        have bC : Below n0 wr WC := gb_bl hWC hb0 (by have := hbr.size; have := hbl.size; omega)
        have bC1 := hbr.trans bC
        have elen : (p ++ [UInt8.ofNat k]).length = p.length + 1 := by simp
        rw [elen] at hr
        refine ⟨ty, yy, WC, ey, fun W => nw_in (ey ▸ hi k hk) W, hr, ?_⟩
        have hN2 : (s ++ pre p ((if v = [] then [] else [([], v)]) ++ L)).length + mk.length ≤ N := by
          rw [hAB] at hN
          simp only [List.length_append, pre, List.length_map] at hN ⊢
          omega
        have hI := ih k hk (hks k hk) mk hmk (p ++ [UInt8.ofNat k]) _ WC (pt_app hp (pt_one hk)) hokk (hY.ab _ wr WC hJr hWC) hf (hbl.trans bC1) hN2
        rw [elen, ey] at hI
        refine hI.mono fun e w' he => ?_
        obtain ⟨e1, e2, e3, e4⟩ := he
        refine ⟨e1, L ++ pre [UInt8.ofNat k] mk, hL2, ?_, Bf_pre e3, bC1.trans e4⟩
        rw [← List.append_assoc, pre_app, pre_pre, ← List.append_assoc]
        exact e2
      have FIN : ∀ e w', e = .returned (.bool true) ∧ (∃ L, rtk 0 (ks.take 16) = some L ∧ J (s ++ pre p ((if v = [] then [] else [([], v)]) ++ L)) w' ∧ Bf b0 p w' ∧ Below n0 W w') → WP n0 b0 J s p ((if v = [] then [] else [([], v)]) ++ La) W e w' := fun e w' he => by
        obtain ⟨e1, L, e2, e3, e4, e5⟩ := he
        rw [List.take_of_length_le (by omega), hLa] at e2
        cases e2
        exact ⟨e1, e3, e4, e5⟩
      by_cases h0 : v = []
      · refine ⟨_, _, fun W => wk_fork _ _ _ W, (walk_fork0 l b0 p.length g c W av v.length cv (fun k w' => ∃ L, rtk 0 (ks.take k) = some L ∧ J (s ++ pre p ((if v = [] then [] else [([], v)]) ++ L)) w' ∧ Bf b0 p w' ∧ Below n0 W w') hbW hc ev (by rw [h0]; rfl) ?_ HBK KI).mono FIN⟩
        refine ⟨[], by unfold rtk; rfl, ?_, hB, Below.refl _ _⟩
        rw [if_pos h0]
        show J (s ++ []) W
        rw [List.append_nil]
        exact hJ
      · refine ⟨_, _, fun W => wk_fork _ _ _ W, (walk_fork1 l b0 p.length g c W av v.length cv (fun k w' => ∃ L, rtk 0 (ks.take k) = some L ∧ J (s ++ pre p ((if v = [] then [] else [([], v)]) ++ L)) w' ∧ Bf b0 p w' ∧ Below n0 W w') hbW hc ev (List.length_pos_iff.2 h0) ?_ HBK KI).mono FIN⟩
        have hin : (([], v) : By × By) ∈ (if v = [] then [] else [([], v)]) ++ La := by rw [if_neg h0]; simp
        obtain ⟨k1, k2, k3⟩ := hok _ hin
        rw [List.append_nil] at k1 k2
        refine yd_mono (hY.yd s p v _ W hJ hB k1 k2 hp (Bs_blw hV hbl) h0 k3 hbl (by rw [if_neg h0] at hN; simp at hN; omega)) fun e w' he => ?_
        obtain ⟨e1, e2, e3, e4⟩ := he
        refine ⟨e1, [], by unfold rtk; rfl, ?_, Bf_blk hB e4, e3⟩
        rw [if_neg h0, List.append_nil, pre_one]
        exact e2
end Tr
end Go.Proofs.Ytdcbgldelfhohab
/- tree.all, its closure; a range over it. -/
namespace Go.Proofs.Ytdcbgldelfhohab
namespace Tr
open Nb Go.RowKit
theorem Bf_make (W : World) : ∃ W', (Instr.makeSlice 22 (.int .i64 0) (.int .i64 64)).run Try.prog W = .ok (.slice (some ⟨W.heap.size, 0, none⟩) 0 64) W' ∧ Bf W.heap.size [] W' ∧ Below W.heap.size W W' := by
  obtain ⟨i0, hi, hz0, hz1, hz2⟩ := info_parts infoU8
  obtain ⟨W', h1, h2, h3⟩ := run_make_own (P := Try.prog) W W.heap.size 22 5 i0 _ 1 Try.underlying22 hi hz0 hz1 .i64 .i64 64 (by rw [hz2]; decide) (by decide) (Nat.le_refl _)
  exact ⟨W', h1, h2, (Below.refl _ _).grown h3 (Nat.le_refl _) (fun k e => by cases e)⟩
inductive ALI (WA WC : World) (Pz : World → Prop) (l b0 Bn ty : Nat) (yy : Value) (d : Nat → Bool) (x : Act) (wx : World) : Prop where
  | mk (u3 u4 u5 u6 u7 u8 u9 : Value) (hx : x = { tmps := #[.func (.yield l) #[] #[], .pointer (some ⟨Bn, 0, none⟩), undef, u3, u4, u5, u6, u7, u8, u9], defers := [] }) (hw : WL WA WC Pz true (d 1) (d 0) (d 6) wx) (p0 : d 0 = true → u3 = .iface ty yy) (p1 : d 1 = true → u4 = .slice (some ⟨b0, 0, none⟩) 0 64) (p2 : d 2 = true → u5 = .func (.yield l) #[] #[]) (p3 : d 3 = true → u6 = .func (.method "lampbearer/tree.walk") #[.iface ty yy] #[]) (p4 : d 4 = true → u7 = .func (.method "lampbearer/tree.walk") #[.iface ty yy] #[]) (p5 : d 5 = true → u8 = .iface ty yy) (p6 : d 6 = true → u9 = .bool true) (y5 : d 5 = true → d 0 = true) : ALI WA WC Pz l b0 Bn ty yy d x wx
set_option maxHeartbeats 2000000 in
set_option maxRecDepth 100000 in
theorem all1_any (l b0 Bn ty : Nat) (yy : Value) (w WC : World) (Pz : World → Prop) (HMK : Hid ((Instr.makeSlice 22 (.int .i64 0) (.int .i64 64)).run Try.prog w.drew = .ok (.slice (some ⟨b0, 0, none⟩) 0 64) WC)) (hB : Bn < w.heap.size) (hbl : Below w.heap.size w WC) (Q0 : w.cell? ⟨Bn, 0, none⟩ = some (.iface ty yy))
    (HNW : Hid (∀ W : World, (nilAhead (Try.prog.types.size + Made.depth) ty yy "lampbearer/tree.walk").run Try.prog W = .ok (some false) W))
    (KI : Hid (Inv "lampbearer/tree.walk" (.iface ty yy) #[.slice (some ⟨b0, 0, none⟩) 0 64, .func (.yield l) #[] #[]] WC (fun e w' => e = .returned (.bool true) ∧ Pz w'))) :
    Calls Try.prog 40 #[.func (.yield l) #[] #[], .pointer (some ⟨Bn, 0, none⟩)] w fun e w' => (∃ v, e = .returned v) ∧ Pz w' := by
  have q0 : Hid (w.drew.cell? ⟨Bn, 0, none⟩ = some (.iface ty yy)) := Q0
  have s0 : Hid (WC.cell? ⟨Bn, 0, none⟩ = some (.iface ty yy)) := (hbl.cell (p := ⟨Bn, 0, none⟩) hB).trans Q0
  have hw0 : WL w.drew WC Pz true false false false w.drew := ⟨fun _ => rfl, fun e => (by cases e), fun e => (by cases e), fun e => (by cases e), fun _ => rfl⟩
  clear hbl Q0 hB
  go_enter Try.func40, Try.ntmps40
  go_upto_region 0 with fail
  refine RI.wp_region_inv (ALI w.drew WC Pz l b0 Bn ty yy) (by kernel_rfl) (by kernel_rfl) ?_ ?_ ?_
  · exact ⟨undef, undef, undef, undef, undef, undef, undef, rfl, hw0, nofun, nofun, nofun, nofun, nofun, nofun, nofun, nofun⟩
  · skip
    intro d x wx i hI hi hm
    obtain ⟨u3, u4, u5, u6, u7, u8, u9, rfl, hw, p0, p1, p2, p3, p4, p5, p6, y5⟩ := hI
    have hi' : i = 0 ∨ i = 1 ∨ i = 2 ∨ i = 3 ∨ i = 4 ∨ i = 5 ∨ i = 6 := by simp at hi; omega
    have hd := hm.2
    have hf := hm.1
    clear hm hi
    rcases hi' with rfl | rfl | rfl | rfl | rfl | rfl | rfl
    · refine RI.wpOp_plain rfl rfl ?_
      have x0 := hw.rd (hw.n2 hf) q0.out s0.out
      go_simp
      exact ⟨_, u4, u5, u6, u7, u8, u9, rfl, hw.s2, fun _ => rfl, p1, p2, p3, p4, p5, p6, fun _ => rfl⟩
    · refine RI.wpOp_plain rfl rfl ?_
      obtain rfl := hw.a hf
      have hmk := HMK.out
      go_simp
      exact ⟨u3, _, u5, u6, u7, u8, u9, rfl, hw.sa hf rfl, p0, fun _ => rfl, p2, p3, p4, p5, p6, y5⟩
    · refine RI.wpOp_plain rfl rfl ?_
      go_simp
      exact ⟨u3, u4, _, u6, u7, u8, u9, rfl, hw, p0, p1, fun _ => rfl, p3, p4, p5, p6, y5⟩
    · have hd := hd _ rfl
      simp [Region.binds] at hd
      obtain rfl := p0 (by simp [hd])
      refine RI.wpOp_plain rfl rfl ?_
      go_simp
      exact ⟨_, u4, u5, _, u7, u8, u9, rfl, hw, p0, p1, p2, fun _ => rfl, p4, p5, p6, y5⟩
    · have hd := hd _ rfl
      simp [Region.binds] at hd
      obtain rfl := p3 (by simp [hd])
      refine RI.wpOp_plain rfl rfl ?_
      refine wp_nilw rfl rfl (HNW.out _) ?_
      simp only [Act.put]
      exact ⟨u3, u4, u5, _, _, u8, u9, rfl, hw, p0, p1, p2, p3, fun _ => rfl, p5, p6, y5⟩
    · have hd := hd _ rfl
      simp [Region.binds] at hd
      obtain rfl := p0 (by simp [hd])
      obtain rfl := p3 (by simp [hd])
      obtain rfl := p4 (by simp [hd])
      refine RI.wpOp_plain rfl rfl ?_
      go_simp
      exact ⟨_, u4, u5, _, _, _, u9, rfl, hw, p0, p1, p2, p3, p4, fun _ => rfl, p6, fun _ => (show d 0 = true by simp [hd])⟩
    · have hd := hd _ rfl
      simp [Region.binds] at hd
      obtain rfl := p1 (by simp [hd])
      obtain rfl := p2 (by simp [hd])
      obtain rfl := p5 (by simp [hd])
      refine RI.wpOp_plain rfl rfl ?_
      obtain rfl := hw.c (by simp [hd]) hf
      refine wp_inv (xv := .iface ty yy) (vs := #[.slice (some ⟨b0, 0, none⟩) 0 64, .func (.yield l) #[] #[]]) rfl rfl (by simp only [List.map_toArray, List.map_cons, List.map_nil]; rfl) (KI.out.mono ?_)
      rintro e w1 ⟨rfl, hz⟩
      refine ⟨_, rfl, ?_⟩
      simp only [Act.put]
      exact ⟨u3, _, _, u6, u7, _, _, rfl, hw.sc (by simp [hd]) (y5 (by simp [hd])) hz, p0, p1, p2, p3, p4, p5, fun _ => rfl, y5⟩
  · skip
    intro d x wx hI hd
    obtain ⟨u3, u4, u5, u6, u7, u8, u9, rfl, hw, p0, p1, p2, p3, p4, p5, p6, y5⟩ := hI
    have HZ : Hid (Pz wx) := hw.z (hd 6 (by decide))
    go_wp2_with fail
    go_end0
    exact ⟨⟨_, rfl⟩, HZ.out⟩
set_option maxHeartbeats 1000000 in
theorem all_any (ty : Nat) (yy : Value) (w : World) : Calls Try.prog 24 #[.iface ty yy] w fun e w' => e = .returned (.func (.func 40) #[] #[.pointer (some ⟨w.heap.size, 0, none⟩)]) ∧ w' = w.alloc (.cells #[.iface ty yy] 47) := by
  go_enter Try.func24, Try.ntmps24
  go_wp2_with fail
  go_ret
  exact ⟨rfl, rfl⟩
/-- A RANGE OVER AN ITERATOR THAT HAS A BUFFER OF ITS OWN: what yield hands on is read there, round by round. -/
theorem wpIn_range_buf {g : Operand} {ps : Array Tmp} {assign body : Code} {Q : Exit → Act → World → Prop} {a : Act} {w : World} {n gf : Nat} {lb : Array Value}
    (hg : a.eval g = .func (.func gf) #[] lb) (eg : ∀ args w, (callFunc gf args).run Try.prog w = .ok (.enter gf args) w) (hps : ps.size = 2)
    (n0 N : Nat) (W0 : World) (hsz : W0.heap.size = n0) (hbl : Below n0 W0 w) (I : Rt → World → Prop)
    (hab : ∀ s A B, I s A → A.grownBy B (some (w.heap.size + 2)) → I s B) (hput : ∀ s A k o, k = w.heap.size ∨ k = w.heap.size + 1 → I s A → I s (A.putObj k o)) (h0 : I [] w) (m : Rt)
    (hseq : ∀ (J : Rt → World → Prop) (W1 : World), W1.heap.size = w.heap.size + 2 → Below w.heap.size w W1 → Yd (w.heap.size + 1) n0 (w.heap.size + 2) N W0 J → J [] W1 → Calls Try.prog gf (#[.func (.yield (w.heap.size + 1)) #[] #[]] ++ lb) W1 fun e W' => (∃ v, e = .returned v) ∧ J m W')
    (a₁ : Value → Value → Act)
    (hassign : ∀ (pv vv : Value) (W : World) (K : Act → World → Prop), K (a₁ pv vv) W → assign.wpIn (Fence.wide.inRound (w.heap.size + 1)) 0 Try.prog (Exit.then K (fun _ _ _ => False)) { tmps := (ps.zip #[pv, vv]).foldl (fun t (p, v) => t.setIfInBounds p v) a.tmps, defers := [] } W)
    (hbody : ∀ (s : Rt) (p v : By) (vv : Value) (W : World), I s W → Bf (w.heap.size + 2) p W → p.length ≤ 64 → p.length % 2 = 0 → Pt p → Bs (· < n0) v vv W → v ≠ [] → v.length ≤ 1024 → Below n0 W0 W → s.length < N →
      body.wpIn (Fence.wide.inRound (w.heap.size + 1)) 0 Try.prog (fun e _ W' => e = .normal ∧ I (s ++ [(p, v)]) W' ∧ Below n0 W W' ∧ W'.heap[w.heap.size + 2]? = W.heap[w.heap.size + 2]? ∧ W'.heap[w.heap.size + 1]? = W.heap[w.heap.size + 1]? ∧ W'.heap[w.heap.size]? = W.heap[w.heap.size]?) (a₁ (.slice (some ⟨w.heap.size + 2, 0, none⟩) p.length 64) vv) W)
    (hdone : ∀ W : World, I m W → W.heap[w.heap.size]? = some (.deferred (some [])) → Q .normal { a with defers := { target := .collected w.heap.size, args := #[] } :: a.defers } W) :
    (Code.rangeFunc g ps assign body).wpIn Fence.wide n Try.prog Q a w := by
  have hws : n0 ≤ w.heap.size := by have := hbl.size; omega
  refine wpIn_rangeFunc ?_
  intro fn hfn
  obtain ⟨rec, hrec⟩ : ∃ rec : LoopState → Option Code → Loop, rec = fun st pe => { state := st, pending := pe, fn, tmps := a.tmps, params := ps, assign, body, defers := w.heap.size } := ⟨_, rfl⟩
  obtain ⟨W1, hW1⟩ : ∃ W1, (w.alloc (.deferred (some []))).alloc (.loop (rec .ready none)) = W1 := ⟨_, rfl⟩
  have hs1 : W1.heap.size = w.heap.size + 2 := by rw [← hW1]; simp
  have hb1 : Below w.heap.size w W1 := by rw [← hW1]; exact ((Below.refl _ w).alloc (Nat.le_refl _) _).alloc (by simp) _
  have hL1 : W1.heap[w.heap.size + 1]? = some (.loop (rec .ready none)) := by
    rw [← hW1]; have := World.alloc_heap_new (w.alloc (.deferred (some []))) (.loop (rec .ready none)); rwa [World.size_alloc] at this
  have hK1 : W1.heap[w.heap.size]? = some (.deferred (some [])) := by
    rw [← hW1]; exact (Below.heap_alloc _ _ _ (by simp)).trans (World.alloc_heap_new w _)
  refine ⟨w.heap.size + 1, [{ target := .collected w.heap.size, args := #[] }], W1, { target := .fn (.func gf) lb, args := #[.func (.yield (w.heap.size + 1)) #[] #[]] }, W1, gf,
    #[.func (.yield (w.heap.size + 1)) #[] #[]] ++ lb, W1, ?_, ?_, ?_, ?_, fun h => (by cases h), callsIn_wide.2 ?_⟩
  · rw [← hW1, hrec]; exact run_enterLoop_outer _ _ _ _ _
  · simp only [resolve, hg]
    simp [go_sem]
  · intro f' _; trivial
  · simp [invoke, go_sem, eg]
  · have hYd : Yd (w.heap.size + 1) n0 (w.heap.size + 2) N W0 (fun s W => I s W ∧ W.heap[w.heap.size + 1]? = some (.loop (rec .ready none)) ∧ W.heap[w.heap.size]? = some (.deferred (some []))) := by
      refine ⟨hsz, by omega, fun s A B h hgr => ?_, fun s p v vv W h hB h1 h2 h3 h4 h5 h6 h7 h8 => ?_⟩
      · have hlt : w.heap.size + 1 < A.heap.size := Pk.lt_of_heap h.2.1
        exact ⟨hab s A B h.1 hgr, (hgr.block _ hlt (fun e => by injection e with e; omega)).trans h.2.1, (hgr.block _ (by omega) (fun e => by injection e with e; omega)).trans h.2.2⟩
      · obtain ⟨hi, hl, hk⟩ := h
        have hlt : w.heap.size + 1 < W.heap.size := Pk.lt_of_heap hl
        have hy := run_yield (P := Try.prog) (args := #[.slice (some ⟨w.heap.size + 2, 0, none⟩) p.length 64, vv]) hl (by rw [hrec, hps]; rfl)
        rw [hrec] at hy
        refine ⟨fn, _, assign, body, hy, roundIn_of_wpIn hfn (hassign _ vv W _ ⟨_, run_beginRound hl (by rw [hrec]), ?_⟩)⟩
        have bb : Below n0 W (W.putObj (w.heap.size + 1) (.loop { rec .ready none with state := .busy })) := ⟨rfl, rfl, rfl, by simp [World.putObj], fun k hk => World.putObj_heap_other (by omega)⟩
        have hl2 : (W.putObj (w.heap.size + 1) (.loop { rec .ready none with state := .busy })).heap[w.heap.size + 1]? = some (.loop { rec .ready none with state := .busy }) := World.putObj_heap_same hlt
        have hk2 : (W.putObj (w.heap.size + 1) (.loop { rec .ready none with state := .busy })).heap[w.heap.size]? = some (.deferred (some [])) := (World.putObj_heap_other (by omega)).trans hk
        have hbf2 : (W.putObj (w.heap.size + 1) (.loop { rec .ready none with state := .busy })).heap[w.heap.size + 2]? = W.heap[w.heap.size + 2]? := World.putObj_heap_other (by omega)
        have hb := hbody s p v vv _ (hput s W _ _ (.inr rfl) hi) (Bf_blk hB hbf2) h1 h2 h3 (Bs_blw h4 bb) h5 h6 (h7.trans bb) h8
        refine wpIn_mono hb ?_
        rintro e a3 W3 ⟨rfl, hi3, hb3, hbf3, hl3, hk3⟩
        have hl3' := hl3.trans hl2
        have hr := run_endRound (P := Try.prog) none hl3'
        rw [hrec] at hr
        refine ⟨_, _, hr, rfl, ⟨hput _ W3 _ _ (.inr rfl) hi3, ?_, ?_⟩, ?_, ?_⟩
        · rw [hrec]; exact World.putObj_heap_same (Pk.lt_of_heap hl3')
        · exact (World.putObj_heap_other (by omega)).trans (hk3.trans hk2)
        · have b3 : Below n0 W3 (W3.putObj (w.heap.size + 1) (.loop { state := if (none : Option Code).isNone = true then .ready else .done, pending := none, fn, tmps := a.tmps, params := ps, assign, body, defers := w.heap.size })) := ⟨rfl, rfl, rfl, by simp [World.putObj], fun k hk => World.putObj_heap_other (by omega)⟩
          exact (bb.trans hb3).trans b3
        · exact (World.putObj_heap_other (by omega)).trans (hbf3.trans hbf2)
    refine (hseq _ W1 hs1 hb1 hYd ⟨?_, hL1, hK1⟩).mono ?_
    · exact hab [] w W1 h0 (bl_gb hb1)
    · rintro e W2 ⟨⟨v, rfl⟩, hi, hl, hk⟩
      refine ⟨none, _, by have := run_endLoop (P := Try.prog) hl (by rw [hrec]; simp); rw [hrec] at this; exact this, hdone _ (hput m W2 _ _ (.inr rfl) hi) ((World.putObj_heap_other (by omega)).trans hk)⟩
end Tr
end Go.Proofs.Ytdcbgldelfhohab
/- A region that draws its order among its first operations alone, the others one behind the other. -/
namespace Go.Proofs.Ytdcbgldelfhohab
namespace RS
open RI
variable {P : Program} {ops : Array Oper} {Q : Exit → Act → World → Prop}
/-- From k on each operation is bound to all ahead of it. -/
def tailOk (ops : Array Oper) (k : Nat) : Bool := (List.range ops.size).all fun j => decide (j < k) || ((ops[j]?).map fun o => (List.range j).all fun i => bindsOn o i).getD true
theorem bindsOn_spec {x : Oper} {j : Nat} (h : bindsOn x j = true) : ∃ e, e ∈ x.after ∧ Region.binds .any e = true ∧ e.on = j := by
  unfold bindsOn at h
  rw [Array.any_eq_true'] at h
  obtain ⟨e, h1, h2⟩ := h
  rw [Bool.and_eq_true, beq_iff_eq] at h2
  exact ⟨e, h1, h2.1, h2.2⟩
/-- The first k in the text's order, whatever order is drawn; the others one behind the other. -/
theorem wp_region_tail {id : Nat} {a : Act} {w : World} (S : World → Prop) (k : Nat) (hm : P.follows .mixedOrders = true) (hok : okOps ops = true) (ht : tailOk ops k = true) (h0 : S w.drew)
    (hs : Seq P ops (fun _ => S) (fun a' => ∀ w', S w' → wpList P ops Q (ops.toList.drop k) a' w') 0 (ops.toList.take k) a) : (Code.region id ops true).wp P Q a w := by
  have hok' := hok
  unfold okOps at hok'
  rw [Bool.and_eq_true] at hok'
  obtain ⟨he, hp⟩ := hok'
  by_cases hk : k ≤ ops.size
  case neg =>
    refine wp_region_seq (fun _ => S) hm hok h0 ?_
    have e1 : ops.toList.take k = ops.toList := List.take_of_length_le (by simp; omega)
    have e2 : ops.toList.drop k = [] := List.drop_eq_nil_of_le (by simp; omega)
    rw [e1, e2] at hs
    have : ∀ l i a, Seq P ops (fun _ => S) (fun a' => ∀ w', S w' → wpList P ops Q [] a' w') i l a → Seq P ops (fun _ => S) (fun a' => ∀ (d : Nat → Bool) w', S w' → (∀ i, i < ops.size → d i = true) → Q .normal a' w') i l a := by
      intro l
      induction l with
      | nil => intro i a h d w' hI _; exact h w' hI
      | cons o r ih => intro i a h; obtain ⟨v, h1, h2⟩ := h; exact ⟨v, h1, ih _ _ h2⟩
    exact this _ _ _ hs
  have hlen : (ops.toList.take k).length = k := by simp; omega
  -- the first k alone
  have vals : ∀ (l : List Oper) (m : Nat) (V : Nat → Value), (∀ j o, l[j]? = some o → ops[m + j]? = some o) → Seq P ops (fun _ => S) (fun a' => ∀ w', S w' → wpList P ops Q (ops.toList.drop k) a' w') m l (fr ops V tt a m) →
      ∃ V', (∀ j, j < m → V' j = V j) ∧ (∀ j o, l[j]? = some o → Step P ops (fun _ => S) (m + j) o (V' (m + j)) (fr ops V' tt a (m + j))) ∧ ∀ w', S w' → wpList P ops Q (ops.toList.drop k) (fr ops V' tt a (m + l.length)) w' := by
    intro l
    induction l with
    | nil => intro m V _ h; exact ⟨V, fun _ _ => rfl, fun j o hj => by simp at hj, by simpa [Seq] using h⟩
    | cons o r ih =>
      intro m V hl h
      obtain ⟨v, h1, h2⟩ := h
      have hkm : ops[m]? = some o := by simpa using hl 0 o rfl
      have frV : ∀ V1 V2 : Nat → Value, ∀ n, (∀ j, j < n → V1 j = V2 j) → fr ops V1 tt a n = fr ops V2 tt a n := by
        intro V1 V2 n
        induction n with
        | zero => intro _; rfl
        | succ n ih => intro hv; rw [fr, fr, ih (fun j hj => hv j (by omega)), hv n (by omega)]
      let W : Nat → Value := fun j => if j = m then v else V j
      have hW : fr ops W tt a (m + 1) = (fr ops V tt a m).put o.dst v := by
        rw [fr, frV W V m (fun j hj => by simp only [W]; rw [if_neg (by omega)])]
        simp [tt, hkm, W]
      rw [← hW] at h2
      obtain ⟨V', e1, e2, e3⟩ := ih (m + 1) W (fun j o' hj => by have := hl (j + 1) o' (by simpa using hj); rwa [show m + (j + 1) = m + 1 + j by omega] at this) h2
      refine ⟨V', fun j hj => ?_, fun j o' hj => ?_, ?_⟩
      · rw [e1 j (by omega)]; simp only [W]; rw [if_neg (by omega)]
      · cases j with
        | zero =>
          have : o' = o := by simpa using hj.symm
          subst this
          rw [Nat.add_zero, e1 m (by omega), frV V' V m (fun j hj => by rw [e1 j (by omega)]; simp only [W]; rw [if_neg (by omega)])]
          simpa [W] using h1
        | succ j => rw [show m + (j + 1) = m + 1 + j by omega]; exact e2 j o' (by simpa using hj)
      · rw [show m + (o :: r).length = m + 1 + r.length by simp; omega]; exact e3
  obtain ⟨V, _, hst, hE⟩ := vals (ops.toList.take k) 0 (fun _ => undef) (fun j o hj => by
    rw [List.getElem?_take] at hj
    split at hj
    · simpa using hj
    · cases hj) hs
  simp only [Nat.zero_add] at hst hE
  rw [hlen] at hE
  have pair : ∀ (i j : Nat) (x y : Oper) (t : Nat), ops[i]? = some x → ops[j]? = some y → y.dst = some t → (x.dst = some t → i = j) ∧ (t ∈ x.looksAt ops → (j < i ∧ bindsOn x j = true) ∨ (i < j ∧ bindsOn y i = true)) := by
    intro i j x y t hx hy ht
    have hi : i < ops.size := (Array.getElem?_eq_some_iff.1 hx).1
    have hj : j < ops.size := (Array.getElem?_eq_some_iff.1 hy).1
    have h1 := List.all_eq_true.1 hp i (List.mem_range.2 hi)
    rw [Bool.and_eq_true] at h1
    have h2 := List.all_eq_true.1 h1.2 j (List.mem_range.2 hj)
    unfold pairOk at h2
    simp only [hx, hy, ht] at h2
    simp at h2
    refine ⟨fun e => h2.1.resolve_left (fun h => h e), fun hm => ?_⟩
    rcases h2.2 with (h | h) | h
    · exact absurd hm h
    · exact .inl h
    · exact .inr h
  have nosel : ∀ (i : Nat) (x : Oper) cs b, ops[i]? = some x → x.op ≠ .select cs b := by
    intro i x cs b hx hc
    have hi : i < ops.size := (Array.getElem?_eq_some_iff.1 hx).1
    have h1 := List.all_eq_true.1 hp i (List.mem_range.2 hi)
    rw [Bool.and_eq_true, hx] at h1
    simp [hc, isSel] at h1
  have tailb : ∀ (d : Nat → Bool) (j : Nat), k ≤ j → j < ops.size → may ops d j → ∀ i, i < j → d i = true := by
    intro d j hkj hj hmay i hij
    have h1 := List.all_eq_true.1 ht j (List.mem_range.2 hj)
    rw [Bool.or_eq_true, Array.getElem?_eq_getElem hj] at h1
    rcases h1 with h1 | h1
    · rw [decide_eq_true_eq] at h1; omega
    · simp only [Option.map_some, Option.getD_some] at h1
      obtain ⟨e, e1, e2, e3⟩ := bindsOn_spec (List.all_eq_true.1 h1 i (List.mem_range.2 hij))
      have h2 := hmay.2 _ (Array.getElem?_eq_getElem hj)
      rw [Array.all_eq_true_iff_forall_mem] at h2
      have h3 := h2 e e1
      rw [e2, e3] at h3
      simpa using h3
  let J1 : (Nat → Bool) → Act → World → Prop := fun d x wx => x = fr ops V d a ops.size ∧ S wx ∧ (∀ j o, ops[j]? = some o → d j = true → ∀ e, e ∈ o.after → Region.binds .any e = true → d e.on = true) ∧ (∀ j, k ≤ j → d j = false) ∧ ∃ j, j < k ∧ d j = false
  let J2 : (Nat → Bool) → Act → World → Prop := fun d x wx => ∃ m, k ≤ m ∧ (∀ j, d j = decide (j < m)) ∧ wpList P ops Q (ops.toList.drop m) x wx
  have enter : ∀ d x wx, x = fr ops V d a ops.size → S wx → (∀ j, k ≤ j → d j = false) → (∀ j, j < k → d j = true) → J2 d x wx := by
    intro d x wx hx hS hf htr
    refine ⟨k, Nat.le_refl _, fun j => ?_, ?_⟩
    · by_cases hj : j < k
      · rw [htr j hj, decide_eq_true hj]
      · rw [hf j (by omega), decide_eq_false hj]
    · have key : ∀ n, k ≤ n → fr ops V d a n = fr ops V tt a k := by
        intro n
        induction n with
        | zero => intro h; have : k = 0 := by omega
                  subst this; rfl
        | succ n ih =>
          intro h
          by_cases hn : k ≤ n
          · rw [fr, hf n hn, ih hn]; simp
          · have : k = n + 1 := by omega
            subst this
            exact fr_congr V a d tt (n + 1) (fun j hj => htr j hj)
      rw [hx, key ops.size hk]
      exact hE wx hS
  refine wp_region_inv (fun d x wx => J1 d x wx ∨ J2 d x wx) hm he ?_ ?_ ?_
  · have hz : fr ops V (fun _ => false) a ops.size = a := by
      have : ∀ k, fr ops V (fun _ => false) a k = a := by
        intro k
        induction k with
        | zero => rfl
        | succ k ih => rw [fr, ih]; simp
      exact this _
    by_cases hk0 : k = 0
    · exact .inr (enter _ _ _ hz.symm h0 (fun _ _ => rfl) (fun j hj => by omega))
    · exact .inl ⟨hz.symm, h0, (fun _ _ _ h => by cases h), (fun _ _ => rfl), 0, by omega, rfl⟩
  · rintro d x wx i (⟨rfl, hI, hcl, hfz, j0, hj0, hdj0⟩ | ⟨m, hkm, hd, hw⟩) hi hmay
    · have hik : i < k := by
        rcases Nat.lt_or_ge i k with h | h
        · exact h
        · have := tailb d i h hi hmay j0 (by omega)
          rw [hdj0] at this; cases this
      obtain ⟨o, ho⟩ : ∃ o, ops[i]? = some o := ⟨ops[i], Array.getElem?_eq_getElem hi⟩
      have hdeps : ∀ e, e ∈ o.after → Region.binds .any e = true → d e.on = true := by
        intro e h1 h2
        have := hmay.2 o ho
        rw [Array.all_eq_true_iff_forall_mem] at this
        have := this e h1
        rw [h2] at this
        simpa using this
      have hsame : ∀ t, t ∈ o.looksAt ops → (fr ops V d a ops.size).tmps[t]? = (fr ops V tt a i).tmps[t]? := by
        intro t ht
        have := fr_get (ops := ops) V a d i t ops.size (fun j hj hjt => by
          obtain ⟨y, hy⟩ : ∃ y, ops[j]? = some y := ⟨ops[j], Array.getElem?_eq_getElem hj⟩
          rw [hy] at hjt
          rcases (pair i j o y t ho hy hjt).2 ht with ⟨h1, h2⟩ | ⟨h1, h2⟩
          · obtain ⟨e, e1, e2, e3⟩ := bindsOn_spec h2
            exact .inl ⟨h1, e3 ▸ hdeps e e1 e2⟩
          · refine .inr ⟨h1, ?_⟩
            cases hdj : d j with
            | false => rfl
            | true =>
              obtain ⟨e, e1, e2, e3⟩ := bindsOn_spec h2
              have := hcl j y hy hdj e e1 e2
              rw [e3, hmay.1] at this; cases this)
        rw [this, show min ops.size i = i by omega]
      have hex : execOp (fr ops V d a ops.size).eval o = execOp (fr ops V tt a i).eval o := by
        refine execOp_congr o (fun cs b => nosel i o cs b ho) (fun x hx => ?_)
        cases x with
        | tmp t => exact eval_get (hsame t (mem_looks hx))
        | _ => rfl
      have hwa := wanted_get hsame
      have hput : ∀ v, v = V i → (fr ops V d a ops.size).put o.dst v = fr ops V (don d i) a ops.size := by
        rintro v rfl
        rw [fr_put V a d i hmay.1 ops.size (fun j hj hne t ht => fun hjt => ?_), if_pos hi, ho]
        · rfl
        · obtain ⟨y, hy⟩ : ∃ y, ops[j]? = some y := ⟨ops[j], Array.getElem?_eq_getElem hj⟩
          rw [hy] at hjt
          rw [ho] at ht
          exact hne ((pair i j o y t ho hy hjt).1 ht).symm
      have hclo : ∀ j o', ops[j]? = some o' → don d i j = true → ∀ e, e ∈ o'.after → Region.binds .any e = true → don d i e.on = true := by
        intro j o' hj hdj e e1 e2
        have : d e.on = true := by
          by_cases hji : j = i
          · subst hji
            rw [ho] at hj
            cases hj
            exact hdeps e e1 e2
          · rw [don_other _ _ _ hji] at hdj
            exact hcl j o' hj hdj e e1 e2
        unfold don; split
        · rfl
        · exact this
      have hnext : ∀ x w', x = fr ops V (don d i) a ops.size → S w' → J1 (don d i) x w' ∨ J2 (don d i) x w' := by
        intro x w' hx hS'
        have hf' : ∀ j, k ≤ j → don d i j = false := fun j hj => by rw [don_other _ _ _ (by omega)]; exact hfz j hj
        by_cases hall : ∀ j, j < k → don d i j = true
        · exact .inr (enter _ _ _ hx hS' hf' hall)
        · refine .inl ⟨hx, hS', hclo, hf', ?_⟩
          rw [Classical.not_forall] at hall
          obtain ⟨j, hj⟩ := hall
          rw [Classical.not_imp] at hj
          exact ⟨j, hj.1, by simpa using hj.2⟩
      unfold wpOp
      rw [ho]
      simp only
      rcases hst i o (by rw [List.getElem?_take, if_pos hik]; simpa using ho) with ⟨h1, h2⟩ | ⟨h1, h2, h3⟩
      · rw [hwa, h1, if_pos rfl]
        refine .inl ?_
        unfold Oper.wp
        rw [hex]
        exact upv_upon (h2 _ d wx hI hmay (fun w' hI' => hnext _ _ (hput _ rfl) hI'))
      · rw [hwa, h1]
        simp only [Bool.false_eq_true, if_false]
        exact hnext _ _ (hput _ h2.symm) (h3 d wx hI hmay)
    · have him : i = m := by
        have h1 : ¬ i < m := by intro h; have := hmay.1; rw [hd, decide_eq_true h] at this; cases this
        have h2 : ¬ m < i := by
          intro h
          have := tailb d i (by omega) hi hmay m h
          rw [hd, decide_eq_false (by omega)] at this; cases this
        omega
      subst him
      have hdr : ops.toList.drop i = ops[i] :: ops.toList.drop (i + 1) := by
        rw [List.drop_eq_getElem_cons (by simpa using hi)]; simp
      rw [hdr] at hw
      have key : ∀ x' w', wpList P ops Q (ops.toList.drop (i + 1)) x' w' → J1 (don d i) x' w' ∨ J2 (don d i) x' w' := fun x' w' h => .inr ⟨i + 1, by omega, fun j => by
        by_cases hj : j = i
        · subst hj; rw [don_same, decide_eq_true (by omega)]
        · rw [don_other _ _ _ hj, hd, decide_eq_decide]; omega, h⟩
      refine wpOp_mono key ?_
      unfold wpOp
      rw [Array.getElem?_eq_getElem hi]
      exact hw
  · rintro d x wx (⟨_, _, _, _, j, hj, hdj⟩ | ⟨m, hkm, hd, hw⟩) hall
    · have := hall j (by omega)
      rw [hdj] at this; cases this
    · have : ops.size ≤ m := by
        rcases Nat.lt_or_ge m ops.size with h | h
        · have := hall m h
          rw [hd, decide_eq_false (by omega)] at this; cases this
        · exact h
      rw [List.drop_eq_nil_of_le (by simpa using this)] at hw
      exact hw
/-- A region that draws nothing, its first k operations walked by their values. -/
theorem wp_region_flat {id : Nat} {a : Act} {w : World} (S : World → Prop) (k : Nat) (he : RI.early ops = true) (h0 : S w)
    (hs : Seq P ops (fun _ => S) (fun a' => ∀ w', S w' → wpList P ops Q (ops.toList.drop k) a' w') 0 (ops.toList.take k) a) : (Code.region id ops false).wp P Q a w := by
  refine wp_region_list ?_
  have key : ∀ (l : List Oper) (i : Nat) (a : Act) (w : World), (∀ j o, l[j]? = some o → ops[i + j]? = some o) → S w → Seq P ops (fun _ => S) (fun a' => ∀ w', S w' → wpList P ops Q (ops.toList.drop k) a' w') i l a → wpList P ops Q (l ++ ops.toList.drop k) a w := by
    intro l
    induction l with
    | nil => intro i a w _ hS h; exact h w hS
    | cons o r ih =>
      intro i a w hl hS h
      obtain ⟨v, h1, h2⟩ := h
      have hi : ops[i]? = some o := by simpa using hl 0 o rfl
      have hsz : i < ops.size := (Array.getElem?_eq_some_iff.1 hi).1
      have hmay : may ops (fun j => decide (j < i)) i := by
        refine ⟨by simp, fun o' ho' => ?_⟩
        have h3 := List.all_eq_true.1 he i (List.mem_range.2 hsz)
        rw [ho'] at h3
        simp only [Option.map_some, Option.getD_some] at h3
        exact h3
      have hr : ∀ a' w', S w' → a' = a.put o.dst v → wpList P ops Q (r ++ ops.toList.drop k) a' w' := fun a' w' hS' e => by
        subst e
        exact ih (i + 1) _ w' (fun j o' hj => by have := hl (j + 1) o' (by simpa using hj); rwa [show i + (j + 1) = i + 1 + j by omega] at this) hS' h2
      rw [List.cons_append]
      unfold wpList
      rcases h1 with ⟨h3, h4⟩ | ⟨h3, h4, h5⟩
      · rw [if_pos h3]
        refine .inl ?_
        unfold Oper.wp
        exact upv_upon (h4 _ _ w hS hmay (fun w' hS' => hr _ w' hS' rfl))
      · rw [if_neg (by rw [h3]; decide), ← h4]
        exact hr _ w hS rfl
  have := key (ops.toList.take k) 0 a w (fun j o hj => by
    rw [List.getElem?_take] at hj
    split at hj
    · simpa using hj
    · cases hj) h0 hs
  rwa [List.take_append_drop] at this
end RS
end Go.Proofs.Ytdcbgldelfhohab
/- Plain arithmetic of sums: blocks soaked up, and the bytes that come out. -/
namespace Go.Proofs.Ytdcbgldelfhohab
namespace Sp
open Go.RowKit
/-- A byte, at its place in a part. -/
def sb (c : Int) (i : Nat) : Int := (c * 2 ^ (8 * (i % 8))) % 18446744073709551616
/-- The first i bytes of a block stirred in. -/
def skb (F f : Nat → Int) : Nat → Nat → Int
  | 0 => F
  | i + 1 => upd (skb F f i) (i / 8) (bits .xor .u64 (skb F f i (i / 8)) (sb (f i) i))
theorem UF_skb {F f : Nat → Int} (h : UF F) : ∀ i, UF (skb F f i)
  | 0 => h
  | i + 1 => UF_upd (UF_skb h i) _ (U_xor _ _ (UF_skb h i _) (U_mod _))
/-- A block soaked up. -/
def sk (F f : Nat → Int) : Nat → Int := mix (skb F f 32)
theorem UF_sk {F f : Nat → Int} (h : UF F) : UF (sk F f) := UF_mix (UF_skb h 32)
/-- The first k blocks of f soaked up. -/
def ab (F f : Nat → Int) : Nat → Nat → Int
  | 0 => F
  | k + 1 => sk (ab F f k) (fun i => f (32 * k + i))
theorem UF_ab {F f : Nat → Int} (h : UF F) : ∀ k, UF (ab F f k)
  | 0 => h
  | k + 1 => UF_sk (UF_ab h k)
/-- Byte k of what comes out. -/
def hb (F : Nat → Int) (k : Nat) : Int := F (k / 8) / 2 ^ (8 * (k % 8)) % 256
/-- Bytes as cells, and as a sum's value. -/
def h32 (G : Nat → Int) : List Value := (List.range 32).map fun i => .int .u8 (G i)
def Hv (G : Nat → Int) : Value := .agg (h32 G).toArray
theorem h32_length (G : Nat → Int) : (h32 G).length = 32 := by simp [h32]
theorem h32_get (G : Nat → Int) (j : Nat) (h : j < 32) : (h32 G)[j]? = some (.int .u8 (G j)) := by
  simp [h32, List.getElem?_map, List.getElem?_range h]
theorem h32_one (G : Nat → Int) : ∀ v ∈ h32 G, v.oneCell' = true := by
  intro v hv
  simp only [h32, List.mem_map] at hv
  obtain ⟨b, _, rfl⟩ := hv
  rfl
/-- What l comes to. -/
def sumf (l : List UInt8) : Nat → Int := hb (ab (fun _ => 0) (bz (pad l)) ((pad l).length / 32))
theorem UF_zero : UF (fun _ => 0) := fun _ => ⟨Int.le_refl 0, by show (0 : Int) < _; decide⟩
theorem skb_congr {F f f' : Nat → Int} : ∀ i, (∀ j, j < i → f j = f' j) → skb F f i = skb F f' i
  | 0, _ => rfl
  | i + 1, h => by rw [skb, skb, skb_congr i (fun j hj => h j (by omega)), h i (by omega)]
theorem ab_congr {F f f' : Nat → Int} : ∀ k, (∀ j, j < 32 * k → f j = f' j) → ab F f k = ab F f' k
  | 0, _ => rfl
  | k + 1, h => by
    rw [ab, ab, ab_congr k (fun j hj => h j (by omega)), sk, sk, skb_congr 32 (fun j hj => h (32 * k + j) (by omega))]
/-- A soaker in block g: a state, and a rest behind it. -/
structure Sk (g : Nat) (F : Nat → Int) (R : Value) (w : World) : Prop where
  hi : g < w.heap.size
  c : CK .u64 g 8 F w
  r : w.cell? ⟨g, 8, none⟩ = some R
  f : Fz g w
theorem CK_gb {k : IntKind} {g h n : Nat} {F : Nat → Int} {w w' : World} (c : CK k h n F w) (b : w.grownBy w' (some g)) (hne : h ≠ g) (hlt : h < w.heap.size) : CK k h n F w' := fun o ho => (World.cell?_of_block (a := ⟨h, o, none⟩) (b.block h hlt (fun e => hne (by simpa using e)))).trans (c o ho)
theorem Fz_gb {g h : Nat} {w w' : World} (c : Fz h w) (b : w.grownBy w' (some g)) (hne : h ≠ g) (hlt : h < w.heap.size) : Fz h w' := fun o => (World.frozen?_of_block (a := ⟨h, o, none⟩) (b.block h hlt (fun e => hne (by simpa using e)))).trans (c o)
theorem cell_gb {g h o : Nat} {v : Value} {w w' : World} (c : w.cell? ⟨h, o, none⟩ = some v) (b : w.grownBy w' (some g)) (hne : h ≠ g) (hlt : h < w.heap.size) : w'.cell? ⟨h, o, none⟩ = some v := (World.cell?_of_block (a := ⟨h, o, none⟩) (b.block h hlt (fun e => hne (by simpa using e)))).trans c
theorem Vb_gb {k : IntKind} {B g h n : Nat} {F : Nat → Int} {w w' : World} (c : Vb k B h n F w) (b : w.grownBy w' (some g)) (hne : h ≠ g) : Vb k B h n F w' := ⟨c.lo, Nat.lt_of_lt_of_le c.hi b.size, CK_gb c.c b hne c.hi, Fz_gb c.f b hne c.hi⟩
theorem gb_refl (w : World) (r : Option Nat) : w.grownBy w r := ⟨rfl, rfl, rfl, Nat.le_refl _, fun _ _ _ => rfl⟩
theorem gb_trans {a b c : World} {r : Option Nat} (h : a.grownBy b r) (k : b.grownBy c r) : a.grownBy c r := Lib.grownBy_trans h k
theorem gb_below {a b : World} {r : Option Nat} (h : Below a.heap.size a b) : a.grownBy b r := ⟨h.os, h.tape, h.output, h.size, fun k hk _ => h.block k hk⟩
theorem gb_drew (a : World) (r : Option Nat) : a.grownBy a.drew r := gb_below (Below.refl _ _).drew
theorem gb_set (a : World) (g o : Nat) (v : Value) : a.grownBy (a.setCell ⟨g, o, none⟩ v) (some g) := ⟨rfl, rfl, rfl, by simp [World.setCell], fun k _ hne => Below.heap_setCell _ _ _ _ (fun e => hne (by rw [e]))⟩
/-- A change of a block that is the call's own is no change below. -/
theorem below_gb {B g : Nat} {w w1 w2 : World} (h : Below B w w1) (b : w1.grownBy w2 (some g)) (hg : B ≤ g) (hB : B ≤ w1.heap.size) : Below B w w2 := h.trans ⟨b.os, b.tape, b.output, b.size, fun k hk => b.block k (by omega) (fun e => by simp at e; omega)⟩
theorem Sk_below {g : Nat} {F : Nat → Int} {R : Value} {w w' : World} (h : Sk g F R w) (b : Below w.heap.size w w') : Sk g F R w' := ⟨Nat.lt_of_lt_of_le h.hi b.size, CK_below h.c b h.hi, (b.cell (p := ⟨g, 8, none⟩) h.hi).trans h.r, Fz_below h.f b h.hi⟩
theorem Sk_drew {g : Nat} {F : Nat → Int} {R : Value} {w : World} (h : Sk g F R w) : Sk g F R w.drew := Sk_below h (Below.refl _ _).drew
theorem Sk_set {g i : Nat} {F : Nat → Int} {R : Value} {w : World} {v : Int} (h : Sk g F R w) (hi : i < 8) : Sk g (upd F i v) R (w.setCell ⟨g, i, none⟩ (.int .u64 v)) := ⟨by simpa using h.hi, CK_set h.c hi, by
  rw [World.cell?_setCell_other w ⟨g, i, none⟩ ⟨g, 8, none⟩ _ (fun e => by simp at e <;> omega)]; exact h.r, Fz_set h.f⟩
end Sp
end Go.Proofs.Ytdcbgldelfhohab
/- Two arrays of numbers are equal where their numbers are. -/
namespace Go.Proofs.Ytdcbgldelfhohab
namespace Sp
open Go.RowKit
/-- The first n numbers are the same. -/
def same (n : Nat) (F G : Nat → Int) : Bool := (List.range n).all fun i => F i == G i
theorem same_iff (n : Nat) (F G : Nat → Int) : same n F G = true ↔ ∀ i, i < n → F i = G i := by simp [same]
theorem same_self (n : Nat) (F : Nat → Int) : same n F F = true := (same_iff n F F).2 fun _ _ => rfl
theorem eqItems_ints (d : Nat) (e : TypeId) (k : IntKind) (he : Try.prog.underlying e = some (.int k)) (hk : Try.prog.plainKey e = true) (xs ys : Array Value) (F G : Nat → Int) (w : World) :
    ∀ is : List Nat, (∀ i ∈ is, xs[i]? = some (.int k (F i)) ∧ ys[i]? = some (.int k (G i))) → (Op.eqItems (d + 1) e 1 xs ys is).run Try.prog w = .ok (is.all fun i => F i == G i) w
  | [], _ => by simp [Op.eqItems]
  | i :: is, h => by
    obtain ⟨h1, h2⟩ := h i (by simp)
    have p1 := run_part_plain (P := Try.prog) w hk (off := i * 1) (xs := xs) (by rw [Nat.mul_one]; exact h1)
    have p2 := run_part_plain (P := Try.prog) w hk (off := i * 1) (xs := ys) (by rw [Nat.mul_one]; exact h2)
    have p3 : (Op.equalIn (d + 1) e (.int k (F i)) (.int k (G i))).run Try.prog w = .ok (F i == G i) w := by simp [Op.equalIn, run_underlying he]
    have ih := eqItems_ints d e k he hk xs ys F G w is (fun j hj => h j (by simp [hj]))
    simp only [Op.eqItems, Sem.run_bind, p1, p2, p3, Result.andThen_ok]
    by_cases c : F i = G i
    · simp [c, ih]
    · simp [c]
theorem eql_array (T e : TypeId) (n : Nat) (k : IntKind) (hT : Try.prog.underlying T = some (.array n e)) (he : Try.prog.underlying e = some (.int k)) (hk : Try.prog.plainKey e = true) (hc : Try.prog.cellsOf e = 1) (hi : (Try.prog.info? e).isSome = true)
    (xs ys : Array Value) (F G : Nat → Int) (w : World) (hx : ∀ i, i < n → xs[i]? = some (.int k (F i)) ∧ ys[i]? = some (.int k (G i))) :
    (binOp .eql T (.agg xs) (.agg ys)).run Try.prog w = .ok (.bool (same n F G)) w := by
  obtain ⟨i, hi⟩ := Option.isSome_iff_exists.1 hi
  rw [run_eql_struct, run_equalIn_array w 9999 _ _ hT hi, hc, eqItems_ints 9998 e k he hk xs ys F G w (List.range n) (fun j hj => hx j (List.mem_range.1 hj))]
  rfl
theorem neq_array (T e : TypeId) (n : Nat) (k : IntKind) (hT : Try.prog.underlying T = some (.array n e)) (he : Try.prog.underlying e = some (.int k)) (hk : Try.prog.plainKey e = true) (hc : Try.prog.cellsOf e = 1) (hi : (Try.prog.info? e).isSome = true)
    (xs ys : Array Value) (F G : Nat → Int) (w : World) (hx : ∀ i, i < n → xs[i]? = some (.int k (F i)) ∧ ys[i]? = some (.int k (G i))) :
    (binOp .neq T (.agg xs) (.agg ys)).run Try.prog w = .ok (.bool (!same n F G)) w := by
  obtain ⟨i, hi⟩ := Option.isSome_iff_exists.1 hi
  rw [run_neq_struct, run_equalIn_array w 9999 _ _ hT hi, hc, eqItems_ints 9998 e k he hk xs ys F G w (List.range n) (fun j hj => hx j (List.mem_range.1 hj))]
  rfl
theorem Sv_get (F : Nat → Int) (i : Nat) (hi : i < 8) : (#[Value.int .u64 (F 0), .int .u64 (F 1), .int .u64 (F 2), .int .u64 (F 3), .int .u64 (F 4), .int .u64 (F 5), .int .u64 (F 6), .int .u64 (F 7)] : Array Value)[i]? = some (.int .u64 (F i)) := by
  have : i = 0 ∨ i = 1 ∨ i = 2 ∨ i = 3 ∨ i = 4 ∨ i = 5 ∨ i = 6 ∨ i = 7 := by omega
  rcases this with rfl | rfl | rfl | rfl | rfl | rfl | rfl | rfl <;> rfl
end Sp
end Go.Proofs.Ytdcbgldelfhohab
/- Words within a region: loaded, laid, held against each other. -/
namespace Go.Proofs.Ytdcbgldelfhohab
namespace RW
open Go.RowKit Go.Shelf
theorem wd_arr (x : Nat) (i : Nat) (hi : i < 4) : (#[.int .u64 (dg x 0), .int .u64 (dg x 1), .int .u64 (dg x 2), .int .u64 (dg x 3)] : Array Value)[i]? = some (.int .u64 (dg x i)) := by
  have : i = 0 ∨ i = 1 ∨ i = 2 ∨ i = 3 := by omega
  rcases this with rfl | rfl | rfl | rfl <;> rfl
theorem dg_inj (x y : Nat) : (∀ i, i < 4 → dg x i = dg y i) ↔ x % 2 ^ 256 = y % 2 ^ 256 := by
  constructor
  · intro h
    have h0 := h 0 (by decide)
    have h1 := h 1 (by decide)
    have h2 := h 2 (by decide)
    have h3 := h 3 (by decide)
    unfold dg at h0 h1 h2 h3
    omega
  · intro h i hi
    have : i = 0 ∨ i = 1 ∨ i = 2 ∨ i = 3 := by omega
    unfold dg
    rcases this with rfl | rfl | rfl | rfl <;> omega
end RW
end Go.Proofs.Ytdcbgldelfhohab
/- nib.Join, lampbearerref.NJoin. -/
namespace Go.Proofs.Ytdcbgldelfhohab
namespace Nb
open Go.RowKit
theorem or16' : ∀ a b : Fin 16, bits .or .u8 ((a.val : Nat) * 16 : Int) ((b.val : Nat) : Int) = ((a.val : Nat) : Int) * 16 + ((b.val : Nat) : Int) := by decide +kernel
theorem or16 (R D : Int) (hR : 0 ≤ R ∧ R < 16) (hD : 0 ≤ D ∧ D < 16) : bits .or .u8 (R * 16) D = R * 16 + D := by
  have h := or16' ⟨R.toNat, by omega⟩ ⟨D.toNat, by omega⟩
  dsimp only at h
  rwa [Int.toNat_of_nonneg hR.1, Int.toNat_of_nonneg hD.1] at h
set_option maxHeartbeats 1000000 in
set_option maxRecDepth 100000 in
theorem join_yes (p : List UInt8) (ao : Option Addr) (cap : Nat) (w : World) (hn : Hid (p.length ≤ 4194304)) (vw : Sp.Vw p ao w) (hj : JF p) :
    Calls Try.prog 25 #[.slice ao p.length cap] w fun e w' => ∃ v, e = .returned (.tuple #[v, .int .i64 0]) ∧ w'.ownsRow w.heap.size 5 1 v (jn p).length (Pk.bcs (jn p)) ∧ Below w.heap.size w w' := by
  obtain ⟨m, hm⟩ : ∃ m, m = p.length / 2 := ⟨_, rfl⟩
  have HM : Hid (m = p.length / 2) := hm
  obtain ⟨w1, hr, hs1, o1, b1⟩ := made m (by have := hn.out; show _ ≤ _; omega) w
  have hw2 : Hid (wrap64 ((p.length : Int) / 2) = (m : Int)) := by
    have hn' := hn.out
    show _ = _
    unfold wrap64; omega
  have H2 : Hid (∀ i, i < m → Sp.bz (jn p) i = (Sp.bz p (2 * i) * 16 + Sp.bz p (2 * i + 1)) % 256) := by rw [hm]; exact jn_get p
  have HV : Hid (Sp.Vw p ao w) := vw
  have HF : Hid (fil (Sp.bz (jn p)) m m = Pk.bcs (jn p)) := by
    show _ = _
    rw [hm, ← jn_length, fil_full]
  have HL : Hid ((jn p).length = m) := by show _ = _; rw [jn_length, hm]
  have KP : Hid (∀ w : World, Sp.Vw p ao w → Calls Try.prog 29 #[.slice ao p.length cap] w fun e w' => e = .returned (.bool true) ∧ w' = w) := fun w v => by
    have k := ispath_any p ao cap w (by have := hn.out; show _ ≤ _; omega) v
    rwa [(pb_iff p).2 hj.2] at k
  have HJ : Hid (∀ j, j < p.length → Sp.bz p j < 16) := (pb_at p).1 ((pb_iff p).2 hj.2)
  have hev : ((p.length : Int) % 2 != 0) = false := by
    have := hj.1
    simp
    omega
  rw [HL.out]
  clear vw hm hj
  generalize Pk.bcs (jn p) = L at *
  generalize Sp.bz (jn p) = G at *
  go_enter Try.func25, Try.ntmps25
  have hw := hw2.out
  go_wp2_with fail
  refine (KP.out _ HV.out).mono (fun e w2 he => ?_)
  obtain ⟨rfl, hw3⟩ := he
  have hw3 := hw3.symm
  subst hw3
  go_wp2_with fail
  clear hw hw2 hr KP hev
  go_loopw [21] (fun i wr => ∃ k : Nat, k ≤ m ∧ i = .int .i64 (k : Int) ∧ wr.ownsRow w.heap.size 5 1 (.slice (some ⟨w.heap.size, 0, none⟩) m m) m (fil G k m) ∧ Below w.heap.size w wr) (fun i _ => ((m : Int) - intOf i).toNat)
  case atStart => exact ⟨0, Nat.zero_le _, rfl, by rw [fil_0]; exact o1, b1⟩
  case round =>
    clear o1 b1 hs1
    obtain ⟨k, hk, rfl, o2, b2⟩ := hrel
    by_cases h1 : k < m
    · have d1 : decide ((k : Int) < (m : Int)) = true := decide_eq_true (by omega)
      obtain ⟨t, ht⟩ : ∃ t, t = 2 * k := ⟨_, rfl⟩
      obtain ⟨r, hr⟩ : ∃ r, r = t + 1 := ⟨_, rfl⟩
      have ht1 : t < p.length := by have := HM.out; omega
      have hr1 : r < p.length := by have := HM.out; omega
      obtain ⟨g, off, rfl, hg, hc⟩ := HV.out (by omega)
      have c0 : wr.drew.cell? ⟨g, off + t, none⟩ = some (.int .u8 (Sp.bz p t)) := (b2.drew.cell (p := ⟨g, off + t, none⟩) hg).trans (hc t ht1)
      have c1 : wr.drew.cell? ⟨g, off + r, none⟩ = some (.int .u8 (Sp.bz p r)) := (b2.drew.cell (p := ⟨g, off + r, none⟩) hg).trans (hc r hr1)
      have hw := stp k (by have := hn.out; have := HM.out; show _ ≤ _; omega)
      have hwt : IntKind.i64.wrap (2 * (k : Int)) = (t : Int) := by
        have := hn.out; have := HM.out
        rw [IntKind.wrap_i64]; omega
      have hwr : IntKind.i64.wrap ((t : Int) + 1) = (r : Int) := by
        have := hn.out; have := HM.out
        rw [IntKind.wrap_i64]; omega
      have o3 := o2.drew
      have b3 := b2.drew
      have ce := World.ownsRow.cellAt o3 k (by omega)
      rw [fil_at G k m k h1] at ce
      have hfro : wr.drew.frozen? ⟨w.heap.size, k, none⟩ = false := World.ownsRow.frozenAt o3 k
      have HX : 0 ≤ Sp.bz p t ∧ Sp.bz p t < 256 := ⟨Sp.bz_nn p t, Sp.bz_lt p t⟩
      have HY : 0 ≤ Sp.bz p r ∧ Sp.bz p r < 256 := ⟨Sp.bz_nn p r, Sp.bz_lt p r⟩
      have HG := H2.out k h1
      rw [← ht, ← hr] at HG
      obtain ⟨V, hV⟩ : ∃ V, V = G k := ⟨_, rfl⟩
      have HS : Hid (fil G (k + 1) m = (fil G k m).set k (.int .u8 V)) := by
        show _ = _
        rw [fil_step G k m h1, hV]
      have HX6 : 0 ≤ Sp.bz p t ∧ Sp.bz p t < 16 := ⟨HX.1, HJ.out t ht1⟩
      have HY6 : 0 ≤ Sp.bz p r ∧ Sp.bz p r < 16 := ⟨HY.1, HJ.out r hr1⟩
      have hwx : IntKind.u8.wrap (Sp.bz p t * 16) = Sp.bz p t * 16 := by
        rw [IntKind.wrap_u8]; omega
      have hor : bits .or .u8 (Sp.bz p t * 16) (Sp.bz p r) = V := by
        rw [or16 _ _ HX6 HY6, hV, HG]
        omega
      have HT : Hid (t = 2 * k ∧ r = t + 1) := ⟨ht, hr⟩
      clear hV HG hc ht hr
      generalize Sp.bz p t = X at *
      generalize Sp.bz p r = Y at *
      go_upto_region 7 with fail
      refine RS.wp_region_two (fun wx => Hid (wx = wr.drew)) (fun wx => Hid (wx = (wr.setCell ⟨w.heap.size, k, none⟩ (.int .u8 V)).drew)) 16 (by kernel_rfl) (by kernel_rfl) (by decide) (rfl) ?_
      dsimp only [List.toList_toArray]
      refine RS.go2 (v := ?_) (a' := ?_) (by decide) rfl ?_ ?_ ?_
      rotate_left 2
      · intro K wx hS hK
        go_simp
        exact hK _ hS
      · simp only [Act.put, List.setIfInBounds_toArray, List.set_cons_succ, List.set_cons_zero]
        rfl
      refine RS.go2 (v := ?_) (a' := ?_) (by decide) rfl ?_ ?_ ?_
      rotate_left 2
      · intro K wx hS hK
        go_simp
        exact hK _ hS
      · simp only [Act.put, List.setIfInBounds_toArray, List.set_cons_succ, List.set_cons_zero]
        rfl
      refine RS.go2 (v := ?_) (a' := ?_) (by decide) rfl ?_ ?_ ?_
      rotate_left 2
      · intro K wx hS hK
        go_simp
        exact hK _ hS
      · simp only [Act.put, List.setIfInBounds_toArray, List.set_cons_succ, List.set_cons_zero]
        rfl
      refine RS.go2 (v := ?_) (a' := ?_) (by decide) rfl ?_ ?_ ?_
      rotate_left 2
      · intro K wx hS hK
        go_simp
        exact hK _ hS
      · simp only [Act.put, List.setIfInBounds_toArray, List.set_cons_succ, List.set_cons_zero]
        rfl
      refine RS.go2 (v := ?_) (a' := ?_) (by decide) rfl ?_ ?_ ?_
      rotate_left 2
      · intro K wx hS hK
        go_simp
        exact hK _ hS
      · simp only [Act.put, List.setIfInBounds_toArray, List.set_cons_succ, List.set_cons_zero]
        rfl
      refine RS.go2 (v := ?_) (a' := ?_) (by decide) rfl ?_ ?_ ?_
      rotate_left 2
      · intro K wx hS hK
        go_simp
        exact hK _ hS
      · simp only [Act.put, List.setIfInBounds_toArray, List.set_cons_succ, List.set_cons_zero]
        rfl
      refine RS.go2 (v := ?_) (a' := ?_) (by decide) rfl ?_ ?_ ?_
      rotate_left 2
      · intro K wx hS hK
        obtain rfl := hS.out
        go_simp
        exact hK _ rfl
      · simp only [Act.put, List.setIfInBounds_toArray, List.set_cons_succ, List.set_cons_zero]
        rfl
      refine RS.go2 (v := ?_) (a' := ?_) (by decide) rfl ?_ ?_ ?_
      rotate_left 2
      · intro K wx hS hK
        go_simp
        exact hK _ hS
      · simp only [Act.put, List.setIfInBounds_toArray, List.set_cons_succ, List.set_cons_zero]
        rfl
      refine RS.go2 (v := ?_) (a' := ?_) (by decide) rfl ?_ ?_ ?_
      rotate_left 2
      · intro K wx hS hK
        go_simp
        exact hK _ hS
      · simp only [Act.put, List.setIfInBounds_toArray, List.set_cons_succ, List.set_cons_zero]
        rfl
      refine RS.go2 (v := ?_) (a' := ?_) (by decide) rfl ?_ ?_ ?_
      rotate_left 2
      · intro K wx hS hK
        go_simp
        exact hK _ hS
      · simp only [Act.put, List.setIfInBounds_toArray, List.set_cons_succ, List.set_cons_zero]
        rfl
      refine RS.go2 (v := ?_) (a' := ?_) (by decide) rfl ?_ ?_ ?_
      rotate_left 2
      · intro K wx hS hK
        go_simp
        exact hK _ hS
      · simp only [Act.put, List.setIfInBounds_toArray, List.set_cons_succ, List.set_cons_zero]
        rfl
      refine RS.go2 (v := ?_) (a' := ?_) (by decide) rfl ?_ ?_ ?_
      rotate_left 2
      · intro K wx hS hK
        go_simp
        exact hK _ hS
      · simp only [Act.put, List.setIfInBounds_toArray, List.set_cons_succ, List.set_cons_zero]
        rfl
      refine RS.go2 (v := ?_) (a' := ?_) (by decide) rfl ?_ ?_ ?_
      rotate_left 2
      · intro K wx hS hK
        go_simp
        exact hK _ hS
      · simp only [Act.put, List.setIfInBounds_toArray, List.set_cons_succ, List.set_cons_zero]
        rfl
      refine RS.go2 (v := ?_) (a' := ?_) (by decide) rfl ?_ ?_ ?_
      rotate_left 2
      · intro K wx hS hK
        obtain rfl := hS.out
        go_simp
        exact hK _ rfl
      · simp only [Act.put, List.setIfInBounds_toArray, List.set_cons_succ, List.set_cons_zero]
        rfl
      refine RS.go2 (v := ?_) (a' := ?_) (by decide) rfl ?_ ?_ ?_
      rotate_left 2
      · intro K wx hS hK
        go_simp
        exact hK _ hS
      · simp only [Act.put, List.setIfInBounds_toArray, List.set_cons_succ, List.set_cons_zero]
        rfl
      refine RS.go2 (v := ?_) (a' := ?_) (by decide) rfl ?_ ?_ ?_
      rotate_left 2
      · intro K wx hS hK
        go_simp
        exact hK _ hS
      · simp only [Act.put, List.setIfInBounds_toArray, List.set_cons_succ, List.set_cons_zero]
        rfl
      refine RS.go2_last (v := ?_) (a' := ?_) rfl (by kernel_rfl) rfl ?_ ?_ ?_
      rotate_left 2
      · intro K wx hS hK
        obtain rfl := hS.out
        go_simp
        exact hK _ rfl
      · exact rfl
      intro w9 hw9
      have o9 : w9.ownsRow w.heap.size 5 1 (.slice (some ⟨w.heap.size, 0, none⟩) m m) m (fil G (k + 1) m) := by
        rw [hw9.out, HS.out]
        exact (o2.stored k _).1.drew
      have b9 : Below w.heap.size w w9 := by
        rw [hw9.out]
        exact (b2.setCell (Nat.le_refl _) _).drew
      clear o2 o3 b2 b3 ce hfro hw9 c0 c1 hwt hwr
      go_wp2_with fail
      have hw := hw.out
      go_roundw
      case rel => exact ⟨k + 1, h1, step_v k _ hw, o9, b9⟩
      case measure => exact msr k m h1 _ hw
    · have hkl : k = m := by omega
      subst hkl
      rw [HF.out] at o2
      go_wp2_with fail
      go_ret2
      exact ⟨_, rfl, o2, b2⟩
set_option maxHeartbeats 1000000 in
set_option maxRecDepth 100000 in
theorem join_no (p : List UInt8) (ao : Option Addr) (cap : Nat) (w : World) (hn : Hid (p.length ≤ 4194304)) (vw : Sp.Vw p ao w) (hj : ¬ JF p) :
    Calls Try.prog 25 #[.slice ao p.length cap] w fun e w' => e = .returned (.tuple #[.slice none 0 0, .int .i64 1]) ∧ w' = w := by
  by_cases e : p.length % 2 = 0
  · have hev : ((p.length : Int) % 2 != 0) = false := by
      simp
      omega
    have KP : Hid (∀ w : World, Sp.Vw p ao w → Calls Try.prog 29 #[.slice ao p.length cap] w fun e w' => e = .returned (.bool false) ∧ w' = w) := fun w v => by
      have k := ispath_any p ao cap w (by have := hn.out; show _ ≤ _; omega) v
      have h : pb p = false := by
        cases hB : pb p
        · rfl
        · exact absurd ⟨e, (pb_iff p).1 hB⟩ hj
      rwa [h] at k
    have HV : Hid (Sp.Vw p ao w) := vw
    clear vw hj hn e
    go_enter Try.func25, Try.ntmps25
    go_wp2_with fail
    refine (KP.out _ HV.out).mono (fun e w2 he => ?_)
    obtain ⟨rfl, rfl⟩ := he
    go_wp2_with fail
    go_ret2
    exact ⟨rfl, rfl⟩
  · have hev : ((p.length : Int) % 2 != 0) = true := by
      simp
      omega
    clear vw hj hn e
    go_enter Try.func25, Try.ntmps25
    go_wp2_with fail
    go_ret2
    exact ⟨rfl, rfl⟩
def NJ (c0 c1 c2 c3 c4 c5 c6 c7 c8 c9 c10 c11 c12 c13 c14 c15 c16 c17 c18 c19 c20 c21 c22 c23 c24 c25 c26 c27 c28 c29 c30 c31 : Value) (w : World) (m : Nat) (L : List Value) (X : List UInt8) (A B : ByteArray) (z : Bool) (d : Nat → Bool) (x : Act) (wx : World) : Prop :=
  ∃ (u32 u33 u34 u35 u36 u37 : Value), x = { tmps := #[c0, c1, c2, c3, c4, c5, c6, c7, c8, c9, c10, c11, c12, c13, c14, c15, c16, c17, c18, c19, c20, c21, c22, c23, c24, c25, c26, c27, c28, c29, c30, c31, u32, u33, u34, u35, u36, u37, undef], defers := [] } ∧ (wx.ownsRow w.heap.size 5 1 c4 m L ∧ Below w.heap.size w wx) ∧ (d 0 = true → u32 = c4) ∧ (d 2 = true → u34 = .string A) ∧ (d 3 = true → u35 = c0) ∧ (d 4 = true → u36 = .string B) ∧ (d 5 = true → u37 = .bool z) ∧ (d 1 = true → Pk.Sl X u33 wx)
end Nb
end Go.Proofs.Ytdcbgldelfhohab
/- Pairs that are told, one behind the other; keys joined. -/
namespace Go.Proofs.Ytdcbgldelfhohab
namespace Tr
open Nb Go.RowKit
/-- A route as a pair. -/
def jp (r : By × By) : By × By := (jn r.1, r.2)
theorem own_bs2 {lo : Nat} {b : By} {v : Value} {w : World} (h : w.ownsRow lo 5 1 v b.length (Pk.bcs b)) : (∃ a c, v = .slice a b.length c) ∧ Bs (lo ≤ ·) b v w := by
  rcases h.2 with ⟨h3, h4⟩ | ⟨g, cap, cur, h3, h5⟩
  · have e : b = [] := List.length_eq_zero_iff.1 h4
    subst e
    subst h3
    exact ⟨⟨_, _, rfl⟩, Bs_nil _ _⟩
  · subst h3
    refine ⟨⟨_, _, rfl⟩, some ⟨g, 0, none⟩, cap, rfl, h5.2.2.1, fun _ => ⟨g, 0, rfl, h5.1, Pk.lt_of_heap h5.2.1, fun j hj => ?_⟩⟩
    rw [Nat.zero_add, h.cellAt _ (by omega)]
    unfold Pk.bcs Sp.bz
    simp [List.getD_eq_getElem?_getD, hj]
theorem join_bs {S : Nat → Prop} {p : By} {pv : Value} {w : World} (hp : Bs S p pv w) (hl : p.length ≤ 64) (hj : JF p) : Calls Try.prog 25 #[pv] w fun e w' => ∃ a n c, e = .returned (.tuple #[.slice a n c, .int .i64 0]) ∧ Bs (w.heap.size ≤ ·) (jn p) (.slice a n c) w' ∧ Below w.heap.size w w' := by
  obtain ⟨ao, cap, h1, _, vw⟩ := Bs_sl hp
  subst h1
  refine (join_yes p ao cap w (by show _ ≤ _; omega) vw hj).mono fun e w' he => ?_
  obtain ⟨v, h1, h2, h3⟩ := he
  obtain ⟨⟨a, c, rfl⟩, h4⟩ := own_bs2 h2
  exact ⟨a, _, c, h1, h4, h3⟩
/-- Pairs as cells. -/
def c2p (vs : List V2) : List Value := vs.flatMap fun u => [u.1, u.2]
theorem c2p_len (l : List V2) : (c2p l).length = l.length * 2 := by
  induction l with
  | nil => rfl
  | cons p r ih => simp only [c2p, List.flatMap_cons, List.length_append, List.length_cons, List.length_nil] at ih ⊢; omega
theorem c2p_app (x y : List V2) : c2p (x ++ y) = c2p x ++ c2p y := by simp [c2p]
theorem c2p_get : ∀ (l : List V2) (j : Nat), j < l.length → (c2p l)[2 * j]? = some (l.getD j m2).1 ∧ (c2p l)[2 * j + 1]? = some (l.getD j m2).2
  | [], j, h => absurd h (by simp)
  | p :: r, 0, _ => ⟨rfl, rfl⟩
  | p :: r, j + 1, h => by
    have ih := c2p_get r j (by simpa using h)
    have e1 : 2 * (j + 1) = 2 * j + 1 + 1 := by omega
    have e2 : 2 * (j + 1) + 1 = 2 * j + 1 + 1 + 1 := by omega
    have ec : c2p (p :: r) = p.1 :: p.2 :: c2p r := rfl
    rw [ec, e2, e1]
    simpa only [List.getElem?_cons_succ, List.getD_cons_succ] using ih
/-- Where a pair's bytes lie. -/
def Sk (b0 : Nat) (v : Value) (k : Nat) : Prop := b0 < k ∧ some k ≠ v.ownBlock
/-- A row of pairs of the call's own, behind block b0. -/
def Po (b0 : Nat) (l : Rt) (v : Value) (W : World) : Prop := ∃ vs : List V2, vs.length = l.length ∧ W.ownsRow (b0 + 1) 41 2 v l.length (c2p vs) ∧ ∀ j, j < l.length → Bs (Sk b0 v) (l.getD j n2).1 (vs.getD j m2).1 W ∧ Bs (Sk b0 v) (l.getD j n2).2 (vs.getD j m2).2 W
theorem Po_nil (b0 : Nat) (W : World) : Po b0 [] (.slice none 0 0) W := ⟨[], rfl, ⟨rfl, .inl ⟨rfl, rfl⟩⟩, fun j hj => absurd hj (by simp)⟩
theorem Po_form {b0 : Nat} {l : Rt} {v : Value} {W : World} (h : Po b0 l v W) : ∃ a n c, v = .slice a n c := by
  obtain ⟨vs, _, h2, _⟩ := h
  rcases h2.2 with ⟨h3, _⟩ | ⟨g, cap, cur, h3, _⟩
  · exact ⟨_, _, _, h3⟩
  · exact ⟨_, _, _, h3⟩
theorem Po_pv {b0 : Nat} {l : Rt} {v : Value} {W : World} (h : Po b0 l v W) : Pv (b0 < ·) l v W := by
  obtain ⟨vs, h1, h2, h3⟩ := h
  refine ⟨vs, h1, ?_, fun j hj => ⟨Bs_mono (h3 j hj).1 (fun k hk _ => hk.1), Bs_mono (h3 j hj).2 (fun k hk _ => hk.1)⟩⟩
  rcases h2.2 with ⟨h4, h5⟩ | ⟨g, cap, cur, h4, h5⟩
  · subst h4
    have : vs = [] := List.length_eq_zero_iff.1 (by omega)
    subst this
    exact ⟨none, 0, rfl, Nat.le_refl _, fun h => absurd h (by simp)⟩
  · subst h4
    refine ⟨some ⟨g, 0, none⟩, cap, by rw [h1], by rw [h1]; exact h5.2.2.1, fun _ => ⟨g, 0, rfl, by have := h5.1; show b0 < g; omega, Pk.lt_of_heap h5.2.1, fun j hj => ?_⟩⟩
    have hc := c2p_get vs j hj
    refine ⟨?_, ?_⟩
    · rw [Nat.zero_add, h2.cellAt _ (by omega)]; exact hc.1
    · rw [Nat.zero_add, h2.cellAt _ (by omega)]; exact hc.2
theorem Po_keep {b0 : Nat} {l : Rt} {v : Value} {W W' : World} (h : Po b0 l v W) (hk : ∀ k, b0 < k → k < W.heap.size → W'.heap[k]? = W.heap[k]?) (hs : W.heap.size ≤ W'.heap.size) : Po b0 l v W' := by
  obtain ⟨vs, h1, h2, h3⟩ := h
  have BK : ∀ {b : By} {x : Value}, Bs (Sk b0 v) b x W → Bs (Sk b0 v) b x W' := fun {b x} hb => by
    obtain ⟨ao, cap, g1, g2, g4⟩ := hb
    refine ⟨ao, cap, g1, g2, fun h0 => ?_⟩
    obtain ⟨k, off, e, hne, hlt, hc⟩ := g4 h0
    exact ⟨k, off, e, hne, Nat.lt_of_lt_of_le hlt hs, fun j hj => (World.cell?_of_block (a := ⟨k, off + j, none⟩) (hk k hne.1 hlt)).trans (hc j hj)⟩
  refine ⟨vs, h1, ⟨h2.1, ?_⟩, fun j hj => ⟨BK (h3 j hj).1, BK (h3 j hj).2⟩⟩
  rcases h2.2 with h4 | ⟨g, cap, cur, h4, h5, h6, h7⟩
  · exact .inl h4
  · exact .inr ⟨g, cap, cur, h4, h5, (hk g (by omega) (Pk.lt_of_heap h6)).trans h6, h7⟩
theorem infoPr : (Try.prog.info? 41).map (fun i => (i.zero, i.size, i.bytes)) = some (some (.agg #[.slice none 0 0, .slice none 0 0]), 2, 48) := by kernel_rfl
theorem Po_app {b0 : Nat} {l : Rt} {v : Value} {W : World} (ty : TypeId) {key val : By} {kv vv : Value} {gb : Nat} (h : Po b0 l v W) (hk : Bs (Sk b0 v) key kv W) (hv : Bs (Sk b0 v) val vv W) (c0 : W.cell? ⟨gb, 0, none⟩ = some kv) (c1 : W.cell? ⟨gb, 1, none⟩ = some vv) (hb : b0 + 1 ≤ W.heap.size) (hl : l.length + 1 ≤ 4194304) :
    ∃ g cap W', (Builtin.append_ #[36, 36] ty #[v, .slice (some ⟨gb, 0, none⟩) 1 1]).run Try.prog W = .ok (.slice (some ⟨g, 0, none⟩) (l.length + 1) cap) W' ∧ Po b0 (l ++ [(key, val)]) (.slice (some ⟨g, 0, none⟩) (l.length + 1) cap) W' ∧ W.grownBy W' v.ownBlock ∧ (∀ k, v.ownBlock = some k → b0 < k) := by
  obtain ⟨i0, hi, hz0, hz1, hz2⟩ := info_parts infoPr
  obtain ⟨vs, h1, h2, h3⟩ := h
  obtain ⟨ka, kc, rfl, _⟩ := Bs_form hk
  obtain ⟨va, vc, rfl, _⟩ := Bs_form hv
  obtain ⟨g, cap, W', hr, ho, hgr, hat, _⟩ := run_append_lies (P := Try.prog) W 36 ty (b0 + 1) 41 i0 _ 2 48 Try.underlying36 hi hz0 hz1 hz2 rfl (by decide) v l.length (c2p vs) h2 ⟨gb, 0, none⟩ 1 1 [.slice ka key.length kc, .slice va val.length vc] rfl
    (fun j u hj => by
      have ea : (⟨gb, 0, none⟩ : Addr).add j = ⟨gb, j, none⟩ := by unfold Addr.add; split <;> simp_all
      rw [ea]
      match j, hj with
      | 0, hj => cases hj; exact c0
      | 1, hj => cases hj; exact c1) (fun u hu => by
        simp only [List.mem_cons, List.not_mem_nil, or_false] at hu
        rcases hu with rfl | rfl <;> rfl) (by omega) (by unfold maxLen; omega) (by omega) hb W.heap.size rfl
  have MV : ∀ {b : By} {x : Value}, Bs (Sk b0 v) b x W → Bs (Sk b0 (.slice (some ⟨g, 0, none⟩) (l.length + 1) cap)) b x W' := fun {b x} hx => by
    have k1 := Bs_mono (S' := fun k => Sk b0 v k ∧ k < W.heap.size) hx (fun k a b => ⟨a, b⟩)
    have k2 := Bs_gb k1 hgr (fun k hk => hk.1.2)
    refine Bs_mono k2 (fun k hk _ => ⟨hk.1.1, fun e => ?_⟩)
    have e : k = g := by injection e
    subst e
    rcases hat with hat | hat
    · exact hk.1.2 hat.symm
    · have := hk.2; omega
  refine ⟨g, cap, W', hr, ⟨vs ++ [(.slice ka key.length kc, .slice va val.length vc)], by simp [h1], ?_, fun j hj => ?_⟩, hgr, fun k hk => ?_⟩
  · rw [List.length_append, c2p_app]
    exact ho
  · rw [List.length_append] at hj
    by_cases e : j < l.length
    · rw [List.getD_eq_getElem?_getD, List.getD_eq_getElem?_getD, List.getElem?_append_left e, List.getElem?_append_left (by omega), ← List.getD_eq_getElem?_getD, ← List.getD_eq_getElem?_getD]
      exact ⟨MV (h3 j e).1, MV (h3 j e).2⟩
    · have ej : j = l.length := by simp at hj; omega
      subst ej
      have e1 : (l ++ [(key, val)]).getD l.length n2 = (key, val) := by simp [List.getD_eq_getElem?_getD]
      have e2 : (vs ++ [(Value.slice ka key.length kc, Value.slice va val.length vc)]).getD l.length m2 = (.slice ka key.length kc, .slice va val.length vc) := by rw [← h1]; simp [List.getD_eq_getElem?_getD]
      rw [e1, e2]
      exact ⟨MV hk, MV hv⟩
  · rcases h2.2 with ⟨h4, _⟩ | ⟨g2, cap2, cur, h4, h5, _⟩
    · subst h4; cases hk
    · subst h4
      have e : g2 = k := by injection hk
      omega
end Tr
end Go.Proofs.Ytdcbgldelfhohab
/- tree.Pairs. -/
namespace Go.Proofs.Ytdcbgldelfhohab
namespace Tr
open Nb Go.RowKit
attribute [local go_sem] Oper.semAt_some
/-- What holds between two rounds. -/
structure PI (w : World) (Bp b0 : Nat) (s : Rt) (W : World) : Prop where
  po : ∃ a n c, W.heap[Bp]? = some (.cells #[.slice a n c] 36 (0, 0)) ∧ Po b0 (s.map jp) (.slice a n c) W
  b : Below w.heap.size w W
theorem PI_gb {w : World} {Bp b0 : Nat} {s : Rt} {W W' : World} (h : PI w Bp b0 s W) (hg : W.grownBy W' (some b0)) (h1 : Bp < b0) (h2 : w.heap.size ≤ b0) : PI w Bp b0 s W' := by
  obtain ⟨⟨a, n, c, h3, h4⟩, h5⟩ := h
  have NE : ∀ k, k ≠ b0 → some k ≠ some b0 := fun k h e => h (by injection e)
  exact ⟨⟨a, n, c, (hg.block _ (Pk.lt_of_heap h3) (NE _ (by omega))).trans h3, Po_keep h4 (fun k hk hl => hg.block k hl (NE _ (by omega))) hg.size⟩, h5.grown hg h5.size (fun k e => by injection e with e; omega)⟩
theorem PI_put {w : World} {Bp b0 : Nat} {s : Rt} {W : World} {k : Nat} {o : Obj} (h : PI w Bp b0 s W) (h1 : k ≠ Bp) (h2 : k ≤ b0) (h3 : w.heap.size ≤ k) : PI w Bp b0 s (W.putObj k o) := by
  obtain ⟨⟨a, n, c, h4, h5⟩, h6⟩ := h
  refine ⟨⟨a, n, c, (World.putObj_heap_other (by omega)).trans h4, Po_keep h5 (fun j hj _ => World.putObj_heap_other (by omega)) (by simp [World.putObj])⟩, ?_⟩
  exact ⟨h6.os, h6.tape, h6.output, Nat.le_trans h6.size (by simp [World.putObj]), fun j hj => (World.putObj_heap_other (by omega)).trans (h6.block j hj)⟩
/-- The region that appends a pair. -/
structure PWx (WA : World) (b0 : Nat) (key v : By) (kv pv : Value) (l : Rt) (Pz : World → Prop) (d3 d5 d6 d7 : Bool) (u30 u32 u33 : Value) (wx : World) : Prop where
  a : d6 = false → Below WA.heap.size WA wx
  b1 : d3 = true → ∃ ca cn cc, u30 = .slice ca cn cc
  b : d3 = true → d6 = false → Bs (WA.heap.size ≤ ·) v u30 wx
  c : d5 = true → d6 = false → ∃ gb, u32 = .slice (some ⟨gb, 0, none⟩) 1 1 ∧ gb < wx.heap.size ∧ wx.cell? ⟨gb, 0, none⟩ = some kv ∧ wx.cell? ⟨gb, 1, none⟩ = some u30
  e : d6 = true → d7 = false → (∃ g n c, u33 = .slice (some ⟨g, 0, none⟩) n c) ∧ Po b0 (l ++ [(key, v)]) u33 wx ∧ WA.grownBy wx pv.ownBlock
  z : d7 = true → Pz wx
  o : d7 = true → d6 = true
  i : d6 = true → d5 = true
  j : d5 = true → d3 = true
section
variable {WA : World} {b0 : Nat} {key v : By} {kv pv : Value} {l : Rt} {Pz : World → Prop} {d3 d5 d6 d7 : Bool} {u30 u32 u33 : Value} {wx : World}
theorem PWx.n6 (h : PWx WA b0 key v kv pv l Pz d3 d5 d6 d7 u30 u32 u33 wx) (e : d5 = false) : d6 = false := by
  cases hc : d6 with
  | false => rfl
  | true => rw [h.i hc] at e; cases e
theorem PWx.n5 (h : PWx WA b0 key v kv pv l Pz d3 d5 d6 d7 u30 u32 u33 wx) (e : d3 = false) : d5 = false := by
  cases hc : d5 with
  | false => rfl
  | true => rw [h.j hc] at e; cases e
theorem PWx.n7 (h : PWx WA b0 key v kv pv l Pz d3 d5 d6 d7 u30 u32 u33 wx) (e : d6 = false) : d7 = false := by
  cases hc : d7 with
  | false => rfl
  | true => rw [h.o hc] at e; cases e
theorem PWx.s3 {u30' : Value} {w1 : World} (h : PWx WA b0 key v kv pv l Pz d3 d5 d6 d7 u30 u32 u33 wx) (hf : d3 = false) (hv : ∃ ca cn cc, u30' = .slice ca cn cc) (hbs : Bs (wx.heap.size ≤ ·) v u30' w1) (hb : Below wx.heap.size wx w1) : PWx WA b0 key v kv pv l Pz true d5 d6 d7 u30' u32 u33 w1 := by
  have e5 := h.n5 hf
  have e6 := h.n6 e5
  have e7 := h.n7 e6
  have ha := h.a e6
  refine ⟨fun _ => ha.trans (hb.mono ha.size), fun _ => hv, fun _ _ => Bs_mono hbs (fun k hk _ => Nat.le_trans ha.size hk), fun h5 => ?_, fun h6 => ?_, fun h7 => ?_, fun h7 => ?_, fun h6 => ?_, fun _ => rfl⟩
  · rw [e5] at h5; cases h5
  · rw [e6] at h6; cases h6
  · rw [e7] at h7; cases h7
  · rw [e7] at h7; cases h7
  · rw [e6] at h6; cases h6
theorem PWx.s5 {u32' : Value} {w1 : World} (h : PWx WA b0 key v kv pv l Pz d3 d5 d6 d7 u30 u32 u33 wx) (hf : d5 = false) (h3 : d3 = true) (hb : Below wx.heap.size wx w1) (hc : ∃ gb, u32' = .slice (some ⟨gb, 0, none⟩) 1 1 ∧ gb < w1.heap.size ∧ w1.cell? ⟨gb, 0, none⟩ = some kv ∧ w1.cell? ⟨gb, 1, none⟩ = some u30) : PWx WA b0 key v kv pv l Pz d3 true d6 d7 u30 u32' u33 w1 := by
  have e6 := h.n6 hf
  have e7 := h.n7 e6
  have ha := h.a e6
  refine ⟨fun _ => ha.trans (hb.mono ha.size), h.b1, fun _ _ => Bs_below (h.b h3 e6) hb, fun _ _ => hc, fun h6 => ?_, fun h7 => ?_, fun h7 => ?_, fun _ => rfl, fun _ => h3⟩
  · rw [e6] at h6; cases h6
  · rw [e7] at h7; cases h7
  · rw [e7] at h7; cases h7
theorem PWx.s6 {u33' : Value} {w1 : World} (h : PWx WA b0 key v kv pv l Pz d3 d5 d6 d7 u30 u32 u33 wx) (hf : d6 = false) (h5 : d5 = true) (hv : ∃ g n c, u33' = .slice (some ⟨g, 0, none⟩) n c) (hp : Po b0 (l ++ [(key, v)]) u33' w1) (hg : wx.grownBy w1 pv.ownBlock) : PWx WA b0 key v kv pv l Pz d3 d5 true d7 u30 u32 u33' w1 := by
  have e7 := h.n7 hf
  have ha := h.a hf
  refine ⟨fun e => (by cases e), h.b1, fun _ e => (by cases e), fun _ e => (by cases e), fun _ _ => ⟨hv, hp, gb_trans (gb_below ha) hg⟩, fun h7 => ?_, fun _ => rfl, fun _ => h5, h.j⟩
  rw [e7] at h7; cases h7
theorem PWx.s7 {w1 : World} (h : PWx WA b0 key v kv pv l Pz d3 d5 d6 d7 u30 u32 u33 wx) (h6 : d6 = true) (hz : Pz w1) : PWx WA b0 key v kv pv l Pz d3 d5 d6 true u30 u32 u33 w1 :=
  ⟨fun e => (by rw [h6] at e; cases e), h.b1, fun _ e => (by rw [h6] at e; cases e), fun _ e => (by rw [h6] at e; cases e), fun _ e => (by cases e), fun _ => hz, fun _ => h6, h.i, h.j⟩
end
inductive PRX (WA : World) (b0 Bp : Nat) (key v : By) (l : Rt) (Pz : World → Prop) (ka va pa : Option Addr) (kn kc vn vc pn pc : Nat) (x0 x1 x2 x3 x4 x5 x7 x10 x11 x12 x13 x14 x15 x16 x17 x18 x19 x20 x21 x22 x23 x24 x25 x26 : Value) (d : Nat → Bool) (x : Act) (wx : World) : Prop where
  | mk (u27 u28 u29 u30 u31 u32 u33 : Value) (hx : x = { tmps := #[x0, x1, x2, x3, x4, x5, .pointer (some ⟨Bp, 0, none⟩), x7, .slice va vn vc, .slice ka kn kc, x10, x11, x12, x13, x14, x15, x16, x17, x18, x19, x20, x21, x22, x23, x24, x25, x26, u27, u28, u29, u30, u31, u32, u33, undef], defers := [] }) (hw : PWx WA b0 key v (.slice ka kn kc) (.slice pa pn pc) l Pz (d 3) (d 5) (d 6) (d 7) u30 u32 u33 wx) (p0 : d 0 = true → u27 = .slice pa pn pc) (p1 : d 1 = true → u28 = .slice ka kn kc) (p2 : d 2 = true → u29 = .slice va vn vc) (p4 : d 4 = true → u31 = .agg #[.slice ka kn kc, u30]) (y3 : d 3 = true → True) (y4 : d 4 = true → d 3 = true) (y5 : d 5 = true → True) (y6 : d 6 = true → d 0 = true) : PRX WA b0 Bp key v l Pz ka va pa kn kc vn vc pn pc x0 x1 x2 x3 x4 x5 x7 x10 x11 x12 x13 x14 x15 x16 x17 x18 x19 x20 x21 x22 x23 x24 x25 x26 d x wx
set_option maxHeartbeats 4000000 in
set_option maxRecDepth 100000 in
theorem pairs_form (k : Int) (a1 a2 a3 : Option Addr) (n1 c1 m2 c2 n3 c3 : Nat) (w : World) (KR0 : ∀ wx : World, Below w.heap.size w wx → Calls Try.prog 17 #[.agg #[.int .i64 k, .slice a1 n1 c1, .slice a2 m2 c2, .slice a3 n3 c3], .int .i64 0] wx fun e w' => ∃ y, e = .returned (.tuple #[y, .bool false]) ∧ Below wx.heap.size wx w') :
    Calls Try.prog 12 #[.agg #[.int .i64 k, .slice a1 n1 c1, .slice a2 m2 c2, .slice a3 n3 c3]] w fun e w' => e = .returned (.tuple #[.slice none 0 0, .int .i64 1]) ∧ Below w.heap.size w w' := by
  have b1 : Below w.heap.size w (w.alloc (.cells #[.int .i64 k, .slice a1 n1 c1, .slice a2 m2 c2, .slice a3 n3 c3] 25)) := (Below.refl _ _).alloc (Nat.le_refl _) _
  obtain ⟨_, q0, q1, q2, q3⟩ := Bx_new w (.int .i64 k, .slice a1 n1 c1, .slice a2 m2 c2, .slice a3 n3 c3)
  dsimp only at q0 q1 q2 q3
  have HBB : Hid (Below w.heap.size w (w.alloc (.cells #[.int .i64 k, .slice a1 n1 c1, .slice a2 m2 c2, .slice a3 n3 c3] 25))) := b1
  have KR : Hid (Calls Try.prog 17 #[.agg #[.int .i64 k, .slice a1 n1 c1, .slice a2 m2 c2, .slice a3 n3 c3], .int .i64 0] (w.alloc (.cells #[.int .i64 k, .slice a1 n1 c1, .slice a2 m2 c2, .slice a3 n3 c3] 25)) fun e w' => ∃ y, e = .returned (.tuple #[y, .bool false]) ∧ Below (w.alloc (.cells #[.int .i64 k, .slice a1 n1 c1, .slice a2 m2 c2, .slice a3 n3 c3] 25)).heap.size (w.alloc (.cells #[.int .i64 k, .slice a1 n1 c1, .slice a2 m2 c2, .slice a3 n3 c3] 25)) w') := KR0 _ b1
  clear KR0 b1
  go_enter Try.func12, Try.ntmps12
  go_wp2_with fail
  refine KR.out.mono ?_
  rintro e w1 ⟨y, rfl, hb1⟩
  have HZ : Hid (Below w.heap.size w w1) := HBB.out.trans (hb1.mono HBB.out.size)
  clear hb1 q0 q1 q2 q3
  go_wp2_with fail
  go_ret2
  exact ⟨rfl, HZ.out⟩
set_option maxHeartbeats 4000000 in
set_option maxRecDepth 100000 in
theorem pairs_value (k : Int) (a1 a2 a3 : Option Addr) (n1 c1 m2 c2 n3 c3 : Nat) (w : World) (lo : Nat) (t : Nd) (m : Rt) (KR0 : ∀ wx : World, Below w.heap.size w wx → Calls Try.prog 17 #[.agg #[.int .i64 k, .slice a1 n1 c1, .slice a2 m2 c2, .slice a3 n3 c3], .int .i64 0] wx fun e w' => ∃ y, e = .returned (.tuple #[y, .bool true]) ∧ In lo w' t y (fun _ => True) ∧ Below wx.heap.size wx w') (hrs : Hid (Rs t)) (hm : Hid (rt t = some m)) (hok : Hid (Okp [] m)) (hN : Hid (m.length ≤ 1048576)) :
    Calls Try.prog 12 #[.agg #[.int .i64 k, .slice a1 n1 c1, .slice a2 m2 c2, .slice a3 n3 c3]] w fun e w' => ∃ v, e = .returned (.tuple #[v, .int .i64 0]) ∧ Pv (w.heap.size ≤ ·) (m.map jp) v w' ∧ Below w.heap.size w w' := by
  have b1 : Below w.heap.size w (w.alloc (.cells #[.int .i64 k, .slice a1 n1 c1, .slice a2 m2 c2, .slice a3 n3 c3] 25)) := (Below.refl _ _).alloc (Nat.le_refl _) _
  obtain ⟨_, q0, q1, q2, q3⟩ := Bx_new w (.int .i64 k, .slice a1 n1 c1, .slice a2 m2 c2, .slice a3 n3 c3)
  dsimp only at q0 q1 q2 q3
  have HBB : Hid (Below w.heap.size w (w.alloc (.cells #[.int .i64 k, .slice a1 n1 c1, .slice a2 m2 c2, .slice a3 n3 c3] 25))) := b1
  have KR : Hid (Calls Try.prog 17 #[.agg #[.int .i64 k, .slice a1 n1 c1, .slice a2 m2 c2, .slice a3 n3 c3], .int .i64 0] (w.alloc (.cells #[.int .i64 k, .slice a1 n1 c1, .slice a2 m2 c2, .slice a3 n3 c3] 25)) fun e w' => ∃ y, e = .returned (.tuple #[y, .bool true]) ∧ In lo w' t y (fun _ => True) ∧ Below (w.alloc (.cells #[.int .i64 k, .slice a1 n1 c1, .slice a2 m2 c2, .slice a3 n3 c3] 25)).heap.size (w.alloc (.cells #[.int .i64 k, .slice a1 n1 c1, .slice a2 m2 c2, .slice a3 n3 c3] 25)) w') := KR0 _ b1
  clear KR0 b1
  refine (callsIn_wide (n := 5)).1 ?_
  refine callsIn_of_wp_marks Try.func12 rfl trivial ?_ rfl
  simp only [Try.ntmps12, List.size_toArray, List.length_cons, List.length_nil, Nat.reduceAdd, Nat.reduceSub, Array.replicate_succ, Array.replicate_zero, List.push_toArray, List.append_toArray, List.nil_append, List.cons_append]
  gi_wp2_with fail
  refine ⟨trivial, (callsIn_wide.2 KR.out).mono ?_⟩
  rintro e W0 ⟨y, rfl, hin, hb1⟩
  obtain ⟨ty, yy, rfl⟩ := In_form hin
  have HZ : Hid (Below w.heap.size w W0) := HBB.out.trans (hb1.mono HBB.out.size)
  have HW : Hid (w.heap.size < W0.heap.size) := by have := hb1.size; show _ < _; simp at this; omega
  have HIN : Hid (In lo W0 t (.iface ty yy) (fun _ => True)) := hin
  clear hb1 hin q0 q1 q2 q3 KR HBB
  gi_wp2_with fail
  refine ⟨trivial, (callsIn_wide.2 (all_any ty yy _)).mono ?_⟩
  rintro e w2 ⟨rfl, rfl⟩
  gi_wp2_with fail
  have bL : Below W0.heap.size W0 ((W0.alloc (.cells #[.slice none 0 0] 36)).alloc (.cells #[.iface ty yy] 47)) := ((Below.refl _ _).alloc (Nat.le_refl _) _).alloc (by simp) _
  have hsL : ((W0.alloc (.cells #[.slice none 0 0] 36)).alloc (.cells #[.iface ty yy] 47)).heap.size = W0.heap.size + 2 := by simp
  have hbox : ((W0.alloc (.cells #[.slice none 0 0] 36)).alloc (.cells #[.iface ty yy] 47)).heap[W0.heap.size]? = some (.cells #[.slice none 0 0] 36 (0, 0)) := by
    rw [Below.heap_alloc _ _ _ (by simp)]
    exact heap_alloc_new W0 _
  have hbn : ((W0.alloc (.cells #[.slice none 0 0] 36)).alloc (.cells #[.iface ty yy] 47)).cell? ⟨W0.heap.size + 1, 0, none⟩ = some (.iface ty yy) := by
    have := heap_alloc_new (W0.alloc (.cells #[.slice none 0 0] 36)) (.cells #[.iface ty yy] 47)
    rw [show (W0.alloc (.cells #[.slice none 0 0] 36)).heap.size = W0.heap.size + 1 by simp] at this
    simp only [World.cell?, this]; rfl
  generalize ((W0.alloc (.cells #[.slice none 0 0] 36)).alloc (.cells #[.iface ty yy] 47)) = Wl at *
  have bwl : Below w.heap.size w Wl := HZ.out.trans (bL.mono HZ.out.size)
  have HWO := HW.out
  refine wpIn_range_buf (gf := 40) (lb := #[.pointer (some ⟨W0.heap.size + 1, 0, none⟩)]) rfl (enters_of Try.func40 (by kernel_rfl) rfl) rfl W0.heap.size 1048576 W0 rfl bL (PI w W0.heap.size (Wl.heap.size + 2))
    (fun s A B h hg => PI_gb h hg (by omega) (by omega)) (fun s A q o hq h => PI_put h (by omega) (by omega) (by omega)) ⟨⟨none, 0, 0, hbox, Po_nil _ _⟩, bwl⟩ m ?seq
    (fun pv vv => { tmps := #[.agg #[.int .i64 k, .slice a1 n1 c1, .slice a2 m2 c2, .slice a3 n3 c3], .pointer (some ⟨w.heap.size, 0, none⟩), .slice none 0 0, .int .i64 0, .iface ty yy, .bool true, .pointer (some ⟨W0.heap.size, 0, none⟩), pv, vv, undef, undef, .tuple #[.iface ty yy, .bool true], .agg #[.int .i64 k, .slice a1 n1 c1, .slice a2 m2 c2, .slice a3 n3 c3], .tuple #[.iface ty yy, .bool true], .iface ty yy, .bool true, .bool true, .bool false, .iface ty yy, .func (.func 40) #[] #[.pointer (some ⟨W0.heap.size + 1, 0, none⟩)], pv, vv, undef, undef, undef, undef, undef, undef, undef, undef, undef, undef, undef, undef, undef], defers := [] }) ?assign ?body ?done
  case seq =>
    intro J W1 hs1 hb1 hY hJ
    obtain ⟨WC, hr, hf, hbC⟩ := Bf_make W1.drew
    have hs1' : W1.drew.heap.size = Wl.heap.size + 2 := hs1
    rw [hs1'] at hr hf
    have bC : Below W1.heap.size W1 WC := ((Below.refl _ _).drew).trans hbC
    have hn0 : Below W0.heap.size W0 WC := by
      have h1 := bL.trans (hb1.mono bL.size)
      exact h1.trans (bC.mono h1.size)
    have hJ2 : J [] WC := hY.ab [] W1 WC hJ (bl_gb bC)
    refine (all1_any (Wl.heap.size + 1) (Wl.heap.size + 2) (W0.heap.size + 1) ty yy W1 WC (fun w' => J m w') hr (by omega) bC ((hb1.cell (p := ⟨W0.heap.size + 1, 0, none⟩) (by show W0.heap.size + 1 < Wl.heap.size; omega)).trans hbn) (fun W => nw_in HIN.out W) ?_).mono fun e w' he => he
    have hI := walk_all hY HIN.out hrs.out m hm.out [] [] WC (fun c hc => by cases hc) hok.out hJ2 hf hn0 (by rw [List.length_nil, Nat.zero_add]; exact hN.out)
    refine hI.mono fun e w' he => ⟨he.1, ?_⟩
    have := he.2.1
    rw [List.nil_append, show pre [] m = m from by unfold pre; simp] at this
    exact this
  case assign =>
    intro pv vv W K hK
    gi_wp2
    exact hK
  case done =>
    intro W hI hK
    obtain ⟨⟨a, n, c, h1, h2⟩, h3⟩ := hI
    have x0 : W.cell? ⟨W0.heap.size, 0, none⟩ = some (.slice a n c) := by simp only [World.cell?, h1]; rfl
    have HPV := Po_pv h2
    have HK : Hid (W.heap[Wl.heap.size]? = some (.deferred (some []))) := hK
    have hPV2 : Hid (Pv (w.heap.size ≤ ·) (m.map jp) (.slice a n c) (W.putObj Wl.heap.size (.deferred none))) := by
      obtain ⟨vs, g1, ⟨ao, cp, g2, g3, g4⟩, g5⟩ := HPV
      have KB : ∀ q, Wl.heap.size + 2 < q → (W.putObj Wl.heap.size (.deferred none)).heap[q]? = W.heap[q]? := fun q hq => World.putObj_heap_other (by omega)
      have KS : (W.putObj Wl.heap.size (.deferred none)).heap.size = W.heap.size := by simp [World.putObj]
      have BK : ∀ {b : By} {x : Value}, Bs (Wl.heap.size + 2 < ·) b x W → Bs (w.heap.size ≤ ·) b x (W.putObj Wl.heap.size (.deferred none)) := fun {b x} hb => by
        obtain ⟨ao, cap, g1, g2, g4⟩ := hb
        refine ⟨ao, cap, g1, g2, fun h0 => ?_⟩
        obtain ⟨q, off, e, hne, hlt, hc⟩ := g4 h0
        exact ⟨q, off, e, by show w.heap.size ≤ q; omega, by omega, fun j hj => (World.cell?_of_block (a := ⟨q, off + j, none⟩) (KB q hne)).trans (hc j hj)⟩
      refine ⟨vs, g1, ⟨ao, cp, g2, g3, fun h0 => ?_⟩, fun j hj => ⟨BK (g5 j hj).1, BK (g5 j hj).2⟩⟩
      obtain ⟨q, off, e, hne, hlt, hc⟩ := g4 h0
      exact ⟨q, off, e, by show w.heap.size ≤ q; omega, by omega, fun j hj => ⟨(World.cell?_of_block (a := ⟨q, off + 2 * j, none⟩) (KB q hne)).trans (hc j hj).1, (World.cell?_of_block (a := ⟨q, off + 2 * j + 1, none⟩) (KB q hne)).trans (hc j hj).2⟩⟩
    have hB2 : Hid (Below w.heap.size w (W.putObj Wl.heap.size (.deferred none))) := ⟨h3.os, h3.tape, h3.output, Nat.le_trans h3.size (by simp [World.putObj]), fun j hj => (World.putObj_heap_other (by omega)).trans (h3.block j hj)⟩
    clear h1 h2 h3 HPV hK
    gi_wp2
    refine ⟨by simp, .inl ⟨_, _, rfl, run_takeDeferred HK.out, ?_⟩⟩
    exact ⟨_, results_tmp2 rfl _ _ _, _, rfl, hPV2.out, hB2.out⟩
  case body =>
    intro s p v vv W hI hBf hp1 hp2 hp3 hV hv0 hv1 hbl hsN
    obtain ⟨⟨pa, pn, pc, hbx, hpo⟩, hbw⟩ := hI
    obtain ⟨va, vc, rfl, _⟩ := Bs_form hV
    have KJ : Hid (Calls Try.prog 25 #[.slice (some ⟨Wl.heap.size + 2, 0, none⟩) p.length 64] W fun e w' => ∃ a n c, e = .returned (.tuple #[.slice a n c, .int .i64 0]) ∧ Bs (W.heap.size ≤ ·) (jn p) (.slice a n c) w' ∧ Below W.heap.size W w') := join_bs (Bf_bs hBf) hp1 ⟨hp2, hp3⟩
    have HSL : Hid (Wl.heap.size = W0.heap.size + 2) := hsL
    have HSW : Hid (w.heap.size < W0.heap.size) := HWO
    have FA : Hid (PI w W0.heap.size (Wl.heap.size + 2) s W ∧ W.heap[W0.heap.size]? = some (.cells #[.slice pa pn pc] 36 (0, 0)) ∧ Po (Wl.heap.size + 2) (s.map jp) (.slice pa pn pc) W ∧ Bf (Wl.heap.size + 2) p W ∧ Bs (· < W0.heap.size) v (.slice va v.length vc) W ∧ v.length ≤ 1024 ∧ Below W0.heap.size W0 W ∧ s.length < 1048576) := ⟨⟨⟨pa, pn, pc, hbx, hpo⟩, hbw⟩, hbx, hpo, hBf, hV, hv1, hbl, hsN⟩
    clear hsL HWO hbx hpo hbw hBf hV hv0 hv1 hbl hsN hp1 hp2 hp3 hbox hbn bL bwl hrs hm hok hN HZ HW HIN
    generalize hvn : v.length = vn at *
    generalize hpl : p.length = np at *
    gi_wp2_with fail
    refine ⟨trivial, rfl, CallsIn.inRound _ ((callsIn_wide.2 KJ.out).mono ?_)⟩
    rintro e W1 ⟨ka, kn, kc, rfl, hkb, hb1⟩
    have HKB : Hid (Bs (W.heap.size ≤ ·) (jn p) (.slice ka kn kc) W1) := hkb
    have HB1 : Hid (Below W.heap.size W W1) := hb1
    clear hkb hb1 KJ
    gi_wp2_with fail
    obtain ⟨f1, f2, f3, f4, f5, f6, f7, f8⟩ := FA.out
    have e1 := HSL.out
    have e2 := HSW.out
    have e3 := Bf_lt f4
    have e4 := HB1.out.size
    have OWN : ∀ q, (Value.slice pa pn pc).ownBlock = some q → Wl.heap.size + 2 < q ∧ q < W.heap.size := fun q hq => by
      obtain ⟨vs, _, h2, _⟩ := f3
      have := h2.lt q hq
      exact ⟨by omega, this.2⟩
    have NEO : ∀ q, q ≤ Wl.heap.size + 2 → some q ≠ (Value.slice pa pn pc).ownBlock := fun q hq e => by have := (OWN q e.symm).1; omega
    have hbx1 : W1.drew.heap[W0.heap.size]? = some (.cells #[.slice pa pn pc] 36 (0, 0)) := (HB1.out.block _ (by omega)).trans f2
    have HBP : Hid (W0.heap.size < W1.drew.heap.size) := by show W0.heap.size < W1.heap.size; omega
    have C0 : Hid (W1.drew.cell? ⟨W0.heap.size, 0, none⟩ = some (.slice pa pn pc)) := by show _ = _; simp only [World.cell?, hbx1]; rfl
    have bD : Below W.heap.size W W1.drew := HB1.out.drew
    have KC : Hid (∀ wx : World, Below W1.drew.heap.size W1.drew wx → Calls Try.prog 23 #[.slice va vn vc] wx fun e w' => ∃ ca cn cc, e = .returned (.slice ca cn cc) ∧ Bs (wx.heap.size ≤ ·) v (.slice ca cn cc) w' ∧ Below wx.heap.size wx w') := fun wx hx => by
      refine (clone_call (Bs_below (Bs_below f5 bD) hx) (by omega)).mono fun e w' he => ?_
      obtain ⟨ca, cc, g1, g2, g3⟩ := he
      exact ⟨ca, _, cc, g1, g2, g3⟩
    have hpoA : Po (Wl.heap.size + 2) (s.map jp) (.slice pa pn pc) W1.drew := Po_keep f3 (fun q _ hq => bD.block q hq) bD.size
    have PAP : Hid (∀ (gb : Nat) (u30 : Value) (wx : World), Below W1.drew.heap.size W1.drew wx → Bs (W1.drew.heap.size ≤ ·) v u30 wx → wx.cell? ⟨gb, 0, none⟩ = some (.slice ka kn kc) → wx.cell? ⟨gb, 1, none⟩ = some u30 → ∃ g c W9, (Builtin.append_ #[36, 36] 36 #[.slice pa pn pc, .slice (some ⟨gb, 0, none⟩) 1 1]).run Try.prog wx = .ok (.slice (some ⟨g, 0, none⟩) ((s.map jp).length + 1) c) W9 ∧ Po (Wl.heap.size + 2) (s.map jp ++ [(jn p, v)]) (.slice (some ⟨g, 0, none⟩) ((s.map jp).length + 1) c) W9 ∧ wx.grownBy W9 (Value.slice pa pn pc).ownBlock ∧ (∀ q, (Value.slice pa pn pc).ownBlock = some q → Wl.heap.size + 2 < q)) := fun gb u30 wx hx hu c0 c1 => by
      have hz : W.heap.size ≤ W1.drew.heap.size := bD.size
      have hz2 := hx.size
      refine Po_app _ (Po_keep hpoA (fun q _ hq => hx.block q hq) hx.size) (Bs_mono (Bs_below (show Bs _ _ _ W1.drew from HKB.out) hx) (fun q hq _ => ⟨?_, fun e => ?_⟩)) (Bs_mono hu (fun q hq _ => ⟨?_, fun e => ?_⟩)) c0 c1 (by omega) (by rw [List.length_map]; omega)
      · have : W.heap.size ≤ q := hq; omega
      · have : W.heap.size ≤ q := hq; have := (OWN q e.symm).2; omega
      · have : W1.drew.heap.size ≤ q := hq; omega
      · have : W1.drew.heap.size ≤ q := hq; have := (OWN q e.symm).2; omega
    have BXF : Hid (∀ wx : World, W1.drew.grownBy wx (Value.slice pa pn pc).ownBlock → wx.heap[W0.heap.size]? = some (.cells #[.slice pa pn pc] 36 (0, 0)) ∧ wx.cell? ⟨W0.heap.size, 0, none⟩ = some (.slice pa pn pc) ∧ wx.frozen? ⟨W0.heap.size, 0, none⟩ = false) := fun wx hg => by
      have h1 := (hg.block _ HBP.out (NEO _ (by omega))).trans hbx1
      exact ⟨h1, by simp only [World.cell?, h1]; rfl, by simp only [World.frozen?, h1]; simp⟩
    have FIN : Hid (∀ (g n c : Nat) (wx : World), Po (Wl.heap.size + 2) (s.map jp ++ [(jn p, v)]) (.slice (some ⟨g, 0, none⟩) n c) wx → W1.drew.grownBy wx (Value.slice pa pn pc).ownBlock → (PI w W0.heap.size (Wl.heap.size + 2) (s ++ [(p, v)]) (wx.setCell ⟨W0.heap.size, 0, none⟩ (.slice (some ⟨g, 0, none⟩) n c)) ∧ Below W0.heap.size W (wx.setCell ⟨W0.heap.size, 0, none⟩ (.slice (some ⟨g, 0, none⟩) n c)) ∧ (wx.setCell ⟨W0.heap.size, 0, none⟩ (.slice (some ⟨g, 0, none⟩) n c)).heap[Wl.heap.size + 2]? = W.heap[Wl.heap.size + 2]? ∧ (wx.setCell ⟨W0.heap.size, 0, none⟩ (.slice (some ⟨g, 0, none⟩) n c)).heap[Wl.heap.size + 1]? = W.heap[Wl.heap.size + 1]? ∧ (wx.setCell ⟨W0.heap.size, 0, none⟩ (.slice (some ⟨g, 0, none⟩) n c)).heap[Wl.heap.size]? = W.heap[Wl.heap.size]?)) := fun g n c wx hp hg => by
      have h1 := (BXF.out wx hg).1
      have gW : W.grownBy wx (Value.slice pa pn pc).ownBlock := gb_trans (gb_below bD) hg
      have SM : ∀ q, q < W.heap.size → q ≠ W0.heap.size → some q ≠ (Value.slice pa pn pc).ownBlock → (wx.setCell ⟨W0.heap.size, 0, none⟩ (.slice (some ⟨g, 0, none⟩) n c)).heap[q]? = W.heap[q]? := fun q h2 h3 h4 => (Below.heap_setCell _ _ _ _ h3).trans (gW.block q h2 h4)
      have bS : ∀ x, x ≤ W0.heap.size → Below x W (wx.setCell ⟨W0.heap.size, 0, none⟩ (.slice (some ⟨g, 0, none⟩) n c)) := fun x hx => ⟨gW.os, gW.tape, gW.output, Nat.le_trans gW.size (by simp [World.setCell]), fun q hq => SM q (by omega) (by omega) (NEO q (by omega))⟩
      refine ⟨⟨⟨some ⟨g, 0, none⟩, n, c, ?_, ?_⟩, f1.b.trans (bS _ (by omega))⟩, bS _ (Nat.le_refl _), SM _ (by omega) (by omega) (NEO _ (by omega)), SM _ (by omega) (by omega) (NEO _ (by omega)), SM _ (by omega) (by omega) (NEO _ (by omega))⟩
      · exact heap_setCell_same h1 _
      · rw [List.map_append]
        exact Po_keep hp (fun q hq _ => Below.heap_setCell _ _ _ _ (by show q ≠ W0.heap.size; omega)) (by simp [World.setCell])
    have hw0 : PWx W1.drew (Wl.heap.size + 2) (jn p) v (.slice ka kn kc) (.slice pa pn pc) (s.map jp) (fun wx => PI w W0.heap.size (Wl.heap.size + 2) (s ++ [(p, v)]) wx ∧ Below W0.heap.size W wx ∧ wx.heap[Wl.heap.size + 2]? = W.heap[Wl.heap.size + 2]? ∧ wx.heap[Wl.heap.size + 1]? = W.heap[Wl.heap.size + 1]? ∧ wx.heap[Wl.heap.size]? = W.heap[Wl.heap.size]?) false false false false undef undef undef W1.drew := ⟨fun _ => Below.refl _ _, fun e => (by cases e), fun e => (by cases e), fun e => (by cases e), fun e => (by cases e), fun e => (by cases e), fun e => (by cases e), fun e => (by cases e), fun e => (by cases e)⟩
    clear f1 f2 f3 f4 f5 f6 f7 f8 e1 e2 e3 e4 OWN NEO hbx1 bD hpoA FA HSL HSW HKB HB1 hvn hpl
    generalize hPz : (fun wx => PI w W0.heap.size (Wl.heap.size + 2) (s ++ [(p, v)]) wx ∧ Below W0.heap.size W wx ∧ wx.heap[Wl.heap.size + 2]? = W.heap[Wl.heap.size + 2]? ∧ wx.heap[Wl.heap.size + 1]? = W.heap[Wl.heap.size + 1]? ∧ wx.heap[Wl.heap.size]? = W.heap[Wl.heap.size]?) = Pz at hw0
    have FIN2 : Hid (∀ (g n c : Nat) (wx : World), Po (Wl.heap.size + 2) (s.map jp ++ [(jn p, v)]) (.slice (some ⟨g, 0, none⟩) n c) wx → W1.drew.grownBy wx (Value.slice pa pn pc).ownBlock → Pz (wx.setCell ⟨W0.heap.size, 0, none⟩ (.slice (some ⟨g, 0, none⟩) n c))) := by
      subst hPz
      exact FIN.out
    have HPZ : Hid ((fun wx => PI w W0.heap.size (Wl.heap.size + 2) (s ++ [(p, v)]) wx ∧ Below W0.heap.size W wx ∧ wx.heap[Wl.heap.size + 2]? = W.heap[Wl.heap.size + 2]? ∧ wx.heap[Wl.heap.size + 1]? = W.heap[Wl.heap.size + 1]? ∧ wx.heap[Wl.heap.size]? = W.heap[Wl.heap.size]?) = Pz) := hPz
    clear FIN hPz
    refine RI.wpIn_region_inv (PRX W1.drew (Wl.heap.size + 2) W0.heap.size (jn p) v (s.map jp) Pz ka va pa kn kc vn vc pn pc (.agg #[.int .i64 k, .slice a1 n1 c1, .slice a2 m2 c2, .slice a3 n3 c3]) (.pointer (some ⟨w.heap.size, 0, none⟩)) (.slice none 0 0) (.int .i64 0) (.iface ty yy) (.bool true) (.slice (some ⟨Wl.heap.size + 2, 0, none⟩) np 64) (.int .i64 0) (.tuple #[.iface ty yy, .bool true]) (.agg #[.int .i64 k, .slice a1 n1 c1, .slice a2 m2 c2, .slice a3 n3 c3]) (.tuple #[.iface ty yy, .bool true]) (.iface ty yy) (.bool true) (.bool true) (.bool false) (.iface ty yy) (.func (.func 40) #[] #[.pointer (some ⟨W0.heap.size + 1, 0, none⟩)]) (.slice (some ⟨Wl.heap.size + 2, 0, none⟩) np 64) (.slice va vn vc) (.tuple #[.slice ka kn kc, .int .i64 0]) (.slice (some ⟨Wl.heap.size + 2, 0, none⟩) np 64) (.tuple #[.slice ka kn kc, .int .i64 0]) (.slice ka kn kc) (.int .i64 0)) (by kernel_rfl) (by kernel_rfl) ?_ ?_ ?_
    · exact ⟨undef, undef, undef, undef, undef, undef, undef, rfl, hw0, nofun, nofun, nofun, nofun, nofun, nofun, nofun, nofun⟩
    · skip
      intro d x wx i hI hi hm
      obtain ⟨u27, u28, u29, u30, u31, u32, u33, rfl, hw, p0, p1, p2, p4, y3, y4, y5, y6⟩ := hI
      have hi' : i = 0 ∨ i = 1 ∨ i = 2 ∨ i = 3 ∨ i = 4 ∨ i = 5 ∨ i = 6 ∨ i = 7 := by simp at hi; omega
      have hd := hm.2
      have hf := hm.1
      clear hm hi
      rcases hi' with rfl | rfl | rfl | rfl | rfl | rfl | rfl | rfl
      · refine RI.wpOpIn_plain rfl rfl (RI.wpIn_round nofun ?_)
        have h6 : d 6 = false := by
          cases h : d 6 with
          | false => rfl
          | true => have := y6 h; rw [hf] at this; cases this
        have x0 := ((hw.a h6).cell (p := ⟨W0.heap.size, 0, none⟩) HBP.out).trans C0.out
        go_simp
        exact ⟨_, u28, u29, u30, u31, u32, u33, rfl, hw, fun _ => rfl, p1, p2, p4, y3, y4, y5, fun _ => rfl⟩
      · refine RI.wpOpIn_plain rfl rfl (RI.wpIn_round nofun ?_)
        go_simp
        exact ⟨u27, _, u29, u30, u31, u32, u33, rfl, hw, p0, fun _ => rfl, p2, p4, y3, y4, y5, y6⟩
      · refine RI.wpOpIn_plain rfl rfl (RI.wpIn_round nofun ?_)
        go_simp
        exact ⟨u27, u28, _, u30, u31, u32, u33, rfl, hw, p0, p1, fun _ => rfl, p4, y3, y4, y5, y6⟩
      · have hd := hd _ rfl
        simp [Region.binds] at hd
        obtain rfl := p2 (by simp [hd])
        refine RI.wpOpIn_plain rfl rfl (RI.wpIn_round nofun ?_)
        have h6 : d 6 = false := hw.n6 (hw.n5 hf)
        go_simp
        refine (KC.out _ (hw.a h6)).mono ?_
        rintro e w1 ⟨ca, cn, cc, rfl, hbs, hb1⟩
        refine ⟨_, rfl, ?_⟩
        exact ⟨u27, u28, _, _, u31, u32, u33, rfl, hw.s3 hf ⟨_, _, _, rfl⟩ hbs hb1, p0, p1, p2, fun h => absurd (y4 h) (by rw [hf]; decide), fun _ => trivial, fun _ => rfl, y5, y6⟩
      · have hd := hd _ rfl
        simp [Region.binds] at hd
        obtain rfl := p1 (by simp [hd])
        refine RI.wpOpIn_plain rfl rfl (RI.wpIn_round nofun ?_)
        obtain ⟨ca, cn, cc, rfl⟩ := hw.b1 (by simp [hd])
        go_simp
        exact ⟨u27, _, u29, _, _, u32, u33, rfl, hw, p0, p1, p2, fun _ => rfl, y3, fun _ => (show d 3 = true by simp [hd]), y5, y6⟩
      · have hd := hd _ rfl
        simp [Region.binds] at hd
        obtain rfl := p4 (by simp [hd])
        refine RI.wpOpIn_plain rfl rfl (RI.wpIn_round nofun ?_)
        have h3 : d 3 = true := y4 (by simp [hd])
        obtain ⟨ca, cn, cc, rfl⟩ := hw.b1 h3
        go_simp
        exact ⟨u27, u28, u29, _, _, _, u33, rfl, hw.s5 hf h3 ((Below.refl _ _).alloc (Nat.le_refl _) _) ⟨_, rfl, by simp, by simp only [World.cell?, heap_alloc_new]; rfl, by simp only [World.cell?, heap_alloc_new]; rfl⟩, p0, p1, p2, p4, y3, y4, fun _ => trivial, y6⟩
      · have hd := hd _ rfl
        simp [Region.binds] at hd
        obtain rfl := p0 (by simp [hd])
        refine RI.wpOpIn_plain rfl rfl (RI.wpIn_round nofun ?_)
        obtain ⟨gb, rfl, hgb, hc0, hc1⟩ := hw.c (by simp [hd]) hf
        obtain ⟨gg, gc, W9, hr, hpo, hgr, hgo⟩ := PAP.out _ _ _ (hw.a hf) (hw.b (by simp [hd]) hf) hc0 hc1
        refine upw_ap rfl rfl rfl hr ?_
        simp only [Act.put]
        exact ⟨_, u28, u29, u30, u31, _, _, rfl, hw.s6 hf (by simp [hd]) ⟨_, _, _, rfl⟩ hpo hgr, p0, p1, p2, p4, y3, y4, y5, fun _ => (show d 0 = true by simp [hd])⟩
      · have hd := hd _ rfl
        simp [Region.binds] at hd
        obtain rfl := p0 (by simp [hd])
        obtain rfl := p1 (by simp [hd])
        obtain rfl := p2 (by simp [hd])
        obtain rfl := p4 (by simp [hd])
        refine RI.wpOpIn_plain rfl rfl (RI.wpIn_round nofun ?_)
        obtain ⟨⟨gg, gn, gc, rfl⟩, hpo, hgr⟩ := hw.e (by simp [hd]) hf
        obtain ⟨xb, xc, xf⟩ := BXF.out _ hgr
        go_simp
        exact ⟨_, _, _, u30, _, u32, _, rfl, hw.s7 (by simp [hd]) (FIN2.out _ _ _ _ hpo hgr), p0, p1, p2, p4, y3, y4, y5, y6⟩
    · skip
      intro d x wx hI hd
      obtain ⟨u27, u28, u29, u30, u31, u32, u33, rfl, hw, p0, p1, p2, p4, y3, y4, y5, y6⟩ := hI
      have hz := hw.z (hd 7 (by decide))
      rw [← HPZ.out] at hz
      exact ⟨rfl, hz.1, hz.2.1, hz.2.2.1, hz.2.2.2.1, hz.2.2.2.2⟩
end Tr
end Go.Proofs.Ytdcbgldelfhohab
/- tree.Pairs, its row the call's own. -/
namespace Go.Proofs.Ytdcbgldelfhohab
namespace Tr
open Nb Go.RowKit
attribute [local go_sem] Oper.semAt_some
set_option maxHeartbeats 4000000 in
set_option maxRecDepth 100000 in
theorem pairs_own (k : Int) (a1 a2 a3 : Option Addr) (n1 c1 m2 c2 n3 c3 : Nat) (w : World) (lo : Nat) (t : Nd) (m : Rt) (KR0 : ∀ wx : World, Below w.heap.size w wx → Calls Try.prog 17 #[.agg #[.int .i64 k, .slice a1 n1 c1, .slice a2 m2 c2, .slice a3 n3 c3], .int .i64 0] wx fun e w' => ∃ y, e = .returned (.tuple #[y, .bool true]) ∧ In lo w' t y (fun _ => True) ∧ Below wx.heap.size wx w') (hrs : Hid (Rs t)) (hm : Hid (rt t = some m)) (hok : Hid (Okp [] m)) (hN : Hid (m.length ≤ 1048576)) :
    Calls Try.prog 12 #[.agg #[.int .i64 k, .slice a1 n1 c1, .slice a2 m2 c2, .slice a3 n3 c3]] w fun e w' => ∃ b0 a n c, e = .returned (.tuple #[.slice a n c, .int .i64 0]) ∧ w.heap.size ≤ b0 ∧ Po b0 (m.map jp) (.slice a n c) w' ∧ Below w.heap.size w w' := by
  have b1 : Below w.heap.size w (w.alloc (.cells #[.int .i64 k, .slice a1 n1 c1, .slice a2 m2 c2, .slice a3 n3 c3] 25)) := (Below.refl _ _).alloc (Nat.le_refl _) _
  obtain ⟨_, q0, q1, q2, q3⟩ := Bx_new w (.int .i64 k, .slice a1 n1 c1, .slice a2 m2 c2, .slice a3 n3 c3)
  dsimp only at q0 q1 q2 q3
  have HBB : Hid (Below w.heap.size w (w.alloc (.cells #[.int .i64 k, .slice a1 n1 c1, .slice a2 m2 c2, .slice a3 n3 c3] 25))) := b1
  have KR : Hid (Calls Try.prog 17 #[.agg #[.int .i64 k, .slice a1 n1 c1, .slice a2 m2 c2, .slice a3 n3 c3], .int .i64 0] (w.alloc (.cells #[.int .i64 k, .slice a1 n1 c1, .slice a2 m2 c2, .slice a3 n3 c3] 25)) fun e w' => ∃ y, e = .returned (.tuple #[y, .bool true]) ∧ In lo w' t y (fun _ => True) ∧ Below (w.alloc (.cells #[.int .i64 k, .slice a1 n1 c1, .slice a2 m2 c2, .slice a3 n3 c3] 25)).heap.size (w.alloc (.cells #[.int .i64 k, .slice a1 n1 c1, .slice a2 m2 c2, .slice a3 n3 c3] 25)) w') := KR0 _ b1
  clear KR0 b1
  refine (callsIn_wide (n := 5)).1 ?_
  refine callsIn_of_wp_marks Try.func12 rfl trivial ?_ rfl
  simp only [Try.ntmps12, List.size_toArray, List.length_cons, List.length_nil, Nat.reduceAdd, Nat.reduceSub, Array.replicate_succ, Array.replicate_zero, List.push_toArray, List.append_toArray, List.nil_append, List.cons_append]
  gi_wp2_with fail
  refine ⟨trivial, (callsIn_wide.2 KR.out).mono ?_⟩
  rintro e W0 ⟨y, rfl, hin, hb1⟩
  obtain ⟨ty, yy, rfl⟩ := In_form hin
  have HZ : Hid (Below w.heap.size w W0) := HBB.out.trans (hb1.mono HBB.out.size)
  have HW : Hid (w.heap.size < W0.heap.size) := by have := hb1.size; show _ < _; simp at this; omega
  have HIN : Hid (In lo W0 t (.iface ty yy) (fun _ => True)) := hin
  clear hb1 hin q0 q1 q2 q3 KR HBB
  gi_wp2_with fail
  refine ⟨trivial, (callsIn_wide.2 (all_any ty yy _)).mono ?_⟩
  rintro e w2 ⟨rfl, rfl⟩
  gi_wp2_with fail
  have bL : Below W0.heap.size W0 ((W0.alloc (.cells #[.slice none 0 0] 36)).alloc (.cells #[.iface ty yy] 47)) := ((Below.refl _ _).alloc (Nat.le_refl _) _).alloc (by simp) _
  have hsL : ((W0.alloc (.cells #[.slice none 0 0] 36)).alloc (.cells #[.iface ty yy] 47)).heap.size = W0.heap.size + 2 := by simp
  have hbox : ((W0.alloc (.cells #[.slice none 0 0] 36)).alloc (.cells #[.iface ty yy] 47)).heap[W0.heap.size]? = some (.cells #[.slice none 0 0] 36 (0, 0)) := by
    rw [Below.heap_alloc _ _ _ (by simp)]
    exact heap_alloc_new W0 _
  have hbn : ((W0.alloc (.cells #[.slice none 0 0] 36)).alloc (.cells #[.iface ty yy] 47)).cell? ⟨W0.heap.size + 1, 0, none⟩ = some (.iface ty yy) := by
    have := heap_alloc_new (W0.alloc (.cells #[.slice none 0 0] 36)) (.cells #[.iface ty yy] 47)
    rw [show (W0.alloc (.cells #[.slice none 0 0] 36)).heap.size = W0.heap.size + 1 by simp] at this
    simp only [World.cell?, this]; rfl
  generalize ((W0.alloc (.cells #[.slice none 0 0] 36)).alloc (.cells #[.iface ty yy] 47)) = Wl at *
  have bwl : Below w.heap.size w Wl := HZ.out.trans (bL.mono HZ.out.size)
  have HWO := HW.out
  refine wpIn_range_buf (gf := 40) (lb := #[.pointer (some ⟨W0.heap.size + 1, 0, none⟩)]) rfl (enters_of Try.func40 (by kernel_rfl) rfl) rfl W0.heap.size 1048576 W0 rfl bL (PI w W0.heap.size (Wl.heap.size + 2))
    (fun s A B h hg => PI_gb h hg (by omega) (by omega)) (fun s A q o hq h => PI_put h (by omega) (by omega) (by omega)) ⟨⟨none, 0, 0, hbox, Po_nil _ _⟩, bwl⟩ m ?seq
    (fun pv vv => { tmps := #[.agg #[.int .i64 k, .slice a1 n1 c1, .slice a2 m2 c2, .slice a3 n3 c3], .pointer (some ⟨w.heap.size, 0, none⟩), .slice none 0 0, .int .i64 0, .iface ty yy, .bool true, .pointer (some ⟨W0.heap.size, 0, none⟩), pv, vv, undef, undef, .tuple #[.iface ty yy, .bool true], .agg #[.int .i64 k, .slice a1 n1 c1, .slice a2 m2 c2, .slice a3 n3 c3], .tuple #[.iface ty yy, .bool true], .iface ty yy, .bool true, .bool true, .bool false, .iface ty yy, .func (.func 40) #[] #[.pointer (some ⟨W0.heap.size + 1, 0, none⟩)], pv, vv, undef, undef, undef, undef, undef, undef, undef, undef, undef, undef, undef, undef, undef], defers := [] }) ?assign ?body ?done
  case seq =>
    intro J W1 hs1 hb1 hY hJ
    obtain ⟨WC, hr, hf, hbC⟩ := Bf_make W1.drew
    have hs1' : W1.drew.heap.size = Wl.heap.size + 2 := hs1
    rw [hs1'] at hr hf
    have bC : Below W1.heap.size W1 WC := ((Below.refl _ _).drew).trans hbC
    have hn0 : Below W0.heap.size W0 WC := by
      have h1 := bL.trans (hb1.mono bL.size)
      exact h1.trans (bC.mono h1.size)
    have hJ2 : J [] WC := hY.ab [] W1 WC hJ (bl_gb bC)
    refine (all1_any (Wl.heap.size + 1) (Wl.heap.size + 2) (W0.heap.size + 1) ty yy W1 WC (fun w' => J m w') hr (by omega) bC ((hb1.cell (p := ⟨W0.heap.size + 1, 0, none⟩) (by show W0.heap.size + 1 < Wl.heap.size; omega)).trans hbn) (fun W => nw_in HIN.out W) ?_).mono fun e w' he => he
    have hI := walk_all hY HIN.out hrs.out m hm.out [] [] WC (fun c hc => by cases hc) hok.out hJ2 hf hn0 (by rw [List.length_nil, Nat.zero_add]; exact hN.out)
    refine hI.mono fun e w' he => ⟨he.1, ?_⟩
    have := he.2.1
    rw [List.nil_append, show pre [] m = m from by unfold pre; simp] at this
    exact this
  case assign =>
    intro pv vv W K hK
    gi_wp2
    exact hK
  case done =>
    intro W hI hK
    obtain ⟨⟨a, n, c, h1, h2⟩, h3⟩ := hI
    have x0 : W.cell? ⟨W0.heap.size, 0, none⟩ = some (.slice a n c) := by simp only [World.cell?, h1]; rfl
    have HK : Hid (W.heap[Wl.heap.size]? = some (.deferred (some []))) := hK
    have hPO2 : Hid (Po (Wl.heap.size + 2) (m.map jp) (.slice a n c) (W.putObj Wl.heap.size (.deferred none))) := Po_keep h2 (fun q hq _ => World.putObj_heap_other (by omega)) (by simp [World.putObj])
    have hLE : Hid (w.heap.size ≤ Wl.heap.size + 2) := by show _ ≤ _; omega
    have hB2 : Hid (Below w.heap.size w (W.putObj Wl.heap.size (.deferred none))) := ⟨h3.os, h3.tape, h3.output, Nat.le_trans h3.size (by simp [World.putObj]), fun j hj => (World.putObj_heap_other (by omega)).trans (h3.block j hj)⟩
    clear h1 h2 h3 hK
    gi_wp2
    refine ⟨by simp, .inl ⟨_, _, rfl, run_takeDeferred HK.out, ?_⟩⟩
    exact ⟨_, results_tmp2 rfl _ _ _, _, a, n, c, rfl, hLE.out, hPO2.out, hB2.out⟩
  case body =>
    intro s p v vv W hI hBf hp1 hp2 hp3 hV hv0 hv1 hbl hsN
    obtain ⟨⟨pa, pn, pc, hbx, hpo⟩, hbw⟩ := hI
    obtain ⟨va, vc, rfl, _⟩ := Bs_form hV
    have KJ : Hid (Calls Try.prog 25 #[.slice (some ⟨Wl.heap.size + 2, 0, none⟩) p.length 64] W fun e w' => ∃ a n c, e = .returned (.tuple #[.slice a n c, .int .i64 0]) ∧ Bs (W.heap.size ≤ ·) (jn p) (.slice a n c) w' ∧ Below W.heap.size W w') := join_bs (Bf_bs hBf) hp1 ⟨hp2, hp3⟩
    have HSL : Hid (Wl.heap.size = W0.heap.size + 2) := hsL
    have HSW : Hid (w.heap.size < W0.heap.size) := HWO
    have FA : Hid (PI w W0.heap.size (Wl.heap.size + 2) s W ∧ W.heap[W0.heap.size]? = some (.cells #[.slice pa pn pc] 36 (0, 0)) ∧ Po (Wl.heap.size + 2) (s.map jp) (.slice pa pn pc) W ∧ Bf (Wl.heap.size + 2) p W ∧ Bs (· < W0.heap.size) v (.slice va v.length vc) W ∧ v.length ≤ 1024 ∧ Below W0.heap.size W0 W ∧ s.length < 1048576) := ⟨⟨⟨pa, pn, pc, hbx, hpo⟩, hbw⟩, hbx, hpo, hBf, hV, hv1, hbl, hsN⟩
    clear hsL HWO hbx hpo hbw hBf hV hv0 hv1 hbl hsN hp1 hp2 hp3 hbox hbn bL bwl hrs hm hok hN HZ HW HIN
    generalize hvn : v.length = vn at *
    generalize hpl : p.length = np at *
    gi_wp2_with fail
    refine ⟨trivial, rfl, CallsIn.inRound _ ((callsIn_wide.2 KJ.out).mono ?_)⟩
    rintro e W1 ⟨ka, kn, kc, rfl, hkb, hb1⟩
    have HKB : Hid (Bs (W.heap.size ≤ ·) (jn p) (.slice ka kn kc) W1) := hkb
    have HB1 : Hid (Below W.heap.size W W1) := hb1
    clear hkb hb1 KJ
    gi_wp2_with fail
    obtain ⟨f1, f2, f3, f4, f5, f6, f7, f8⟩ := FA.out
    have e1 := HSL.out
    have e2 := HSW.out
    have e3 := Bf_lt f4
    have e4 := HB1.out.size
    have OWN : ∀ q, (Value.slice pa pn pc).ownBlock = some q → Wl.heap.size + 2 < q ∧ q < W.heap.size := fun q hq => by
      obtain ⟨vs, _, h2, _⟩ := f3
      have := h2.lt q hq
      exact ⟨by omega, this.2⟩
    have NEO : ∀ q, q ≤ Wl.heap.size + 2 → some q ≠ (Value.slice pa pn pc).ownBlock := fun q hq e => by have := (OWN q e.symm).1; omega
    have hbx1 : W1.drew.heap[W0.heap.size]? = some (.cells #[.slice pa pn pc] 36 (0, 0)) := (HB1.out.block _ (by omega)).trans f2
    have HBP : Hid (W0.heap.size < W1.drew.heap.size) := by show W0.heap.size < W1.heap.size; omega
    have C0 : Hid (W1.drew.cell? ⟨W0.heap.size, 0, none⟩ = some (.slice pa pn pc)) := by show _ = _; simp only [World.cell?, hbx1]; rfl
    have bD : Below W.heap.size W W1.drew := HB1.out.drew
    have KC : Hid (∀ wx : World, Below W1.drew.heap.size W1.drew wx → Calls Try.prog 23 #[.slice va vn vc] wx fun e w' => ∃ ca cn cc, e = .returned (.slice ca cn cc) ∧ Bs (wx.heap.size ≤ ·) v (.slice ca cn cc) w' ∧ Below wx.heap.size wx w') := fun wx hx => by
      refine (clone_call (Bs_below (Bs_below f5 bD) hx) (by omega)).mono fun e w' he => ?_
      obtain ⟨ca, cc, g1, g2, g3⟩ := he
      exact ⟨ca, _, cc, g1, g2, g3⟩
    have hpoA : Po (Wl.heap.size + 2) (s.map jp) (.slice pa pn pc) W1.drew := Po_keep f3 (fun q _ hq => bD.block q hq) bD.size
    have PAP : Hid (∀ (gb : Nat) (u30 : Value) (wx : World), Below W1.drew.heap.size W1.drew wx → Bs (W1.drew.heap.size ≤ ·) v u30 wx → wx.cell? ⟨gb, 0, none⟩ = some (.slice ka kn kc) → wx.cell? ⟨gb, 1, none⟩ = some u30 → ∃ g c W9, (Builtin.append_ #[36, 36] 36 #[.slice pa pn pc, .slice (some ⟨gb, 0, none⟩) 1 1]).run Try.prog wx = .ok (.slice (some ⟨g, 0, none⟩) ((s.map jp).length + 1) c) W9 ∧ Po (Wl.heap.size + 2) (s.map jp ++ [(jn p, v)]) (.slice (some ⟨g, 0, none⟩) ((s.map jp).length + 1) c) W9 ∧ wx.grownBy W9 (Value.slice pa pn pc).ownBlock ∧ (∀ q, (Value.slice pa pn pc).ownBlock = some q → Wl.heap.size + 2 < q)) := fun gb u30 wx hx hu c0 c1 => by
      have hz : W.heap.size ≤ W1.drew.heap.size := bD.size
      have hz2 := hx.size
      refine Po_app _ (Po_keep hpoA (fun q _ hq => hx.block q hq) hx.size) (Bs_mono (Bs_below (show Bs _ _ _ W1.drew from HKB.out) hx) (fun q hq _ => ⟨?_, fun e => ?_⟩)) (Bs_mono hu (fun q hq _ => ⟨?_, fun e => ?_⟩)) c0 c1 (by omega) (by rw [List.length_map]; omega)
      · have : W.heap.size ≤ q := hq; omega
      · have : W.heap.size ≤ q := hq; have := (OWN q e.symm).2; omega
      · have : W1.drew.heap.size ≤ q := hq; omega
      · have : W1.drew.heap.size ≤ q := hq; have := (OWN q e.symm).2; omega
    have BXF : Hid (∀ wx : World, W1.drew.grownBy wx (Value.slice pa pn pc).ownBlock → wx.heap[W0.heap.size]? = some (.cells #[.slice pa pn pc] 36 (0, 0)) ∧ wx.cell? ⟨W0.heap.size, 0, none⟩ = some (.slice pa pn pc) ∧ wx.frozen? ⟨W0.heap.size, 0, none⟩ = false) := fun wx hg => by
      have h1 := (hg.block _ HBP.out (NEO _ (by omega))).trans hbx1
      exact ⟨h1, by simp only [World.cell?, h1]; rfl, by simp only [World.frozen?, h1]; simp⟩
    have FIN : Hid (∀ (g n c : Nat) (wx : World), Po (Wl.heap.size + 2) (s.map jp ++ [(jn p, v)]) (.slice (some ⟨g, 0, none⟩) n c) wx → W1.drew.grownBy wx (Value.slice pa pn pc).ownBlock → (PI w W0.heap.size (Wl.heap.size + 2) (s ++ [(p, v)]) (wx.setCell ⟨W0.heap.size, 0, none⟩ (.slice (some ⟨g, 0, none⟩) n c)) ∧ Below W0.heap.size W (wx.setCell ⟨W0.heap.size, 0, none⟩ (.slice (some ⟨g, 0, none⟩) n c)) ∧ (wx.setCell ⟨W0.heap.size, 0, none⟩ (.slice (some ⟨g, 0, none⟩) n c)).heap[Wl.heap.size + 2]? = W.heap[Wl.heap.size + 2]? ∧ (wx.setCell ⟨W0.heap.size, 0, none⟩ (.slice (some ⟨g, 0, none⟩) n c)).heap[Wl.heap.size + 1]? = W.heap[Wl.heap.size + 1]? ∧ (wx.setCell ⟨W0.heap.size, 0, none⟩ (.slice (some ⟨g, 0, none⟩) n c)).heap[Wl.heap.size]? = W.heap[Wl.heap.size]?)) := fun g n c wx hp hg => by
      have h1 := (BXF.out wx hg).1
      have gW : W.grownBy wx (Value.slice pa pn pc).ownBlock := gb_trans (gb_below bD) hg
      have SM : ∀ q, q < W.heap.size → q ≠ W0.heap.size → some q ≠ (Value.slice pa pn pc).ownBlock → (wx.setCell ⟨W0.heap.size, 0, none⟩ (.slice (some ⟨g, 0, none⟩) n c)).heap[q]? = W.heap[q]? := fun q h2 h3 h4 => (Below.heap_setCell _ _ _ _ h3).trans (gW.block q h2 h4)
      have bS : ∀ x, x ≤ W0.heap.size → Below x W (wx.setCell ⟨W0.heap.size, 0, none⟩ (.slice (some ⟨g, 0, none⟩) n c)) := fun x hx => ⟨gW.os, gW.tape, gW.output, Nat.le_trans gW.size (by simp [World.setCell]), fun q hq => SM q (by omega) (by omega) (NEO q (by omega))⟩
      refine ⟨⟨⟨some ⟨g, 0, none⟩, n, c, ?_, ?_⟩, f1.b.trans (bS _ (by omega))⟩, bS _ (Nat.le_refl _), SM _ (by omega) (by omega) (NEO _ (by omega)), SM _ (by omega) (by omega) (NEO _ (by omega)), SM _ (by omega) (by omega) (NEO _ (by omega))⟩
      · exact heap_setCell_same h1 _
      · rw [List.map_append]
        exact Po_keep hp (fun q hq _ => Below.heap_setCell _ _ _ _ (by show q ≠ W0.heap.size; omega)) (by simp [World.setCell])
    have hw0 : PWx W1.drew (Wl.heap.size + 2) (jn p) v (.slice ka kn kc) (.slice pa pn pc) (s.map jp) (fun wx => PI w W0.heap.size (Wl.heap.size + 2) (s ++ [(p, v)]) wx ∧ Below W0.heap.size W wx ∧ wx.heap[Wl.heap.size + 2]? = W.heap[Wl.heap.size + 2]? ∧ wx.heap[Wl.heap.size + 1]? = W.heap[Wl.heap.size + 1]? ∧ wx.heap[Wl.heap.size]? = W.heap[Wl.heap.size]?) false false false false undef undef undef W1.drew := ⟨fun _ => Below.refl _ _, fun e => (by cases e), fun e => (by cases e), fun e => (by cases e), fun e => (by cases e), fun e => (by cases e), fun e => (by cases e), fun e => (by cases e), fun e => (by cases e)⟩
    clear f1 f2 f3 f4 f5 f6 f7 f8 e1 e2 e3 e4 OWN NEO hbx1 bD hpoA FA HSL HSW HKB HB1 hvn hpl
    generalize hPz : (fun wx => PI w W0.heap.size (Wl.heap.size + 2) (s ++ [(p, v)]) wx ∧ Below W0.heap.size W wx ∧ wx.heap[Wl.heap.size + 2]? = W.heap[Wl.heap.size + 2]? ∧ wx.heap[Wl.heap.size + 1]? = W.heap[Wl.heap.size + 1]? ∧ wx.heap[Wl.heap.size]? = W.heap[Wl.heap.size]?) = Pz at hw0
    have FIN2 : Hid (∀ (g n c : Nat) (wx : World), Po (Wl.heap.size + 2) (s.map jp ++ [(jn p, v)]) (.slice (some ⟨g, 0, none⟩) n c) wx → W1.drew.grownBy wx (Value.slice pa pn pc).ownBlock → Pz (wx.setCell ⟨W0.heap.size, 0, none⟩ (.slice (some ⟨g, 0, none⟩) n c))) := by
      subst hPz
      exact FIN.out
    have HPZ : Hid ((fun wx => PI w W0.heap.size (Wl.heap.size + 2) (s ++ [(p, v)]) wx ∧ Below W0.heap.size W wx ∧ wx.heap[Wl.heap.size + 2]? = W.heap[Wl.heap.size + 2]? ∧ wx.heap[Wl.heap.size + 1]? = W.heap[Wl.heap.size + 1]? ∧ wx.heap[Wl.heap.size]? = W.heap[Wl.heap.size]?) = Pz) := hPz
    clear FIN hPz
    refine RI.wpIn_region_inv (PRX W1.drew (Wl.heap.size + 2) W0.heap.size (jn p) v (s.map jp) Pz ka va pa kn kc vn vc pn pc (.agg #[.int .i64 k, .slice a1 n1 c1, .slice a2 m2 c2, .slice a3 n3 c3]) (.pointer (some ⟨w.heap.size, 0, none⟩)) (.slice none 0 0) (.int .i64 0) (.iface ty yy) (.bool true) (.slice (some ⟨Wl.heap.size + 2, 0, none⟩) np 64) (.int .i64 0) (.tuple #[.iface ty yy, .bool true]) (.agg #[.int .i64 k, .slice a1 n1 c1, .slice a2 m2 c2, .slice a3 n3 c3]) (.tuple #[.iface ty yy, .bool true]) (.iface ty yy) (.bool true) (.bool true) (.bool false) (.iface ty yy) (.func (.func 40) #[] #[.pointer (some ⟨W0.heap.size + 1, 0, none⟩)]) (.slice (some ⟨Wl.heap.size + 2, 0, none⟩) np 64) (.slice va vn vc) (.tuple #[.slice ka kn kc, .int .i64 0]) (.slice (some ⟨Wl.heap.size + 2, 0, none⟩) np 64) (.tuple #[.slice ka kn kc, .int .i64 0]) (.slice ka kn kc) (.int .i64 0)) (by kernel_rfl) (by kernel_rfl) ?_ ?_ ?_
    · exact ⟨undef, undef, undef, undef, undef, undef, undef, rfl, hw0, nofun, nofun, nofun, nofun, nofun, nofun, nofun, nofun⟩
    · skip
      intro d x wx i hI hi hm
      obtain ⟨u27, u28, u29, u30, u31, u32, u33, rfl, hw, p0, p1, p2, p4, y3, y4, y5, y6⟩ := hI
      have hi' : i = 0 ∨ i = 1 ∨ i = 2 ∨ i = 3 ∨ i = 4 ∨ i = 5 ∨ i = 6 ∨ i = 7 := by simp at hi; omega
      have hd := hm.2
      have hf := hm.1
      clear hm hi
      rcases hi' with rfl | rfl | rfl | rfl | rfl | rfl | rfl | rfl
      · refine RI.wpOpIn_plain rfl rfl (RI.wpIn_round nofun ?_)
        have h6 : d 6 = false := by
          cases h : d 6 with
          | false => rfl
          | true => have := y6 h; rw [hf] at this; cases this
        have x0 := ((hw.a h6).cell (p := ⟨W0.heap.size, 0, none⟩) HBP.out).trans C0.out
        go_simp
        exact ⟨_, u28, u29, u30, u31, u32, u33, rfl, hw, fun _ => rfl, p1, p2, p4, y3, y4, y5, fun _ => rfl⟩
      · refine RI.wpOpIn_plain rfl rfl (RI.wpIn_round nofun ?_)
        go_simp
        exact ⟨u27, _, u29, u30, u31, u32, u33, rfl, hw, p0, fun _ => rfl, p2, p4, y3, y4, y5, y6⟩
      · refine RI.wpOpIn_plain rfl rfl (RI.wpIn_round nofun ?_)
        go_simp
        exact ⟨u27, u28, _, u30, u31, u32, u33, rfl, hw, p0, p1, fun _ => rfl, p4, y3, y4, y5, y6⟩
      · have hd := hd _ rfl
        simp [Region.binds] at hd
        obtain rfl := p2 (by simp [hd])
        refine RI.wpOpIn_plain rfl rfl (RI.wpIn_round nofun ?_)
        have h6 : d 6 = false := hw.n6 (hw.n5 hf)
        go_simp
        refine (KC.out _ (hw.a h6)).mono ?_
        rintro e w1 ⟨ca, cn, cc, rfl, hbs, hb1⟩
        refine ⟨_, rfl, ?_⟩
        exact ⟨u27, u28, _, _, u31, u32, u33, rfl, hw.s3 hf ⟨_, _, _, rfl⟩ hbs hb1, p0, p1, p2, fun h => absurd (y4 h) (by rw [hf]; decide), fun _ => trivial, fun _ => rfl, y5, y6⟩
      · have hd := hd _ rfl
        simp [Region.binds] at hd
        obtain rfl := p1 (by simp [hd])
        refine RI.wpOpIn_plain rfl rfl (RI.wpIn_round nofun ?_)
        obtain ⟨ca, cn, cc, rfl⟩ := hw.b1 (by simp [hd])
        go_simp
        exact ⟨u27, _, u29, _, _, u32, u33, rfl, hw, p0, p1, p2, fun _ => rfl, y3, fun _ => (show d 3 = true by simp [hd]), y5, y6⟩
      · have hd := hd _ rfl
        simp [Region.binds] at hd
        obtain rfl := p4 (by simp [hd])
        refine RI.wpOpIn_plain rfl rfl (RI.wpIn_round nofun ?_)
        have h3 : d 3 = true := y4 (by simp [hd])
        obtain ⟨ca, cn, cc, rfl⟩ := hw.b1 h3
        go_simp
        exact ⟨u27, u28, u29, _, _, _, u33, rfl, hw.s5 hf h3 ((Below.refl _ _).alloc (Nat.le_refl _) _) ⟨_, rfl, by simp, by simp only [World.cell?, heap_alloc_new]; rfl, by simp only [World.cell?, heap_alloc_new]; rfl⟩, p0, p1, p2, p4, y3, y4, fun _ => trivial, y6⟩
      · have hd := hd _ rfl
        simp [Region.binds] at hd
        obtain rfl := p0 (by simp [hd])
        refine RI.wpOpIn_plain rfl rfl (RI.wpIn_round nofun ?_)
        obtain ⟨gb, rfl, hgb, hc0, hc1⟩ := hw.c (by simp [hd]) hf
        obtain ⟨gg, gc, W9, hr, hpo, hgr, hgo⟩ := PAP.out _ _ _ (hw.a hf) (hw.b (by simp [hd]) hf) hc0 hc1
        refine upw_ap rfl rfl rfl hr ?_
        simp only [Act.put]
        exact ⟨_, u28, u29, u30, u31, _, _, rfl, hw.s6 hf (by simp [hd]) ⟨_, _, _, rfl⟩ hpo hgr, p0, p1, p2, p4, y3, y4, y5, fun _ => (show d 0 = true by simp [hd])⟩
      · have hd := hd _ rfl
        simp [Region.binds] at hd
        obtain rfl := p0 (by simp [hd])
        obtain rfl := p1 (by simp [hd])
        obtain rfl := p2 (by simp [hd])
        obtain rfl := p4 (by simp [hd])
        refine RI.wpOpIn_plain rfl rfl (RI.wpIn_round nofun ?_)
        obtain ⟨⟨gg, gn, gc, rfl⟩, hpo, hgr⟩ := hw.e (by simp [hd]) hf
        obtain ⟨xb, xc, xf⟩ := BXF.out _ hgr
        go_simp
        exact ⟨_, _, _, u30, _, u32, _, rfl, hw.s7 (by simp [hd]) (FIN2.out _ _ _ _ hpo hgr), p0, p1, p2, p4, y3, y4, y5, y6⟩
    · skip
      intro d x wx hI hd
      obtain ⟨u27, u28, u29, u30, u31, u32, u33, rfl, hw, p0, p1, p2, p4, y3, y4, y5, y6⟩ := hI
      have hz := hw.z (hd 7 (by decide))
      rw [← HPZ.out] at hz
      exact ⟨rfl, hz.1, hz.2.1, hz.2.2.1, hz.2.2.2.1, hz.2.2.2.2⟩
end Tr
end Go.Proofs.Ytdcbgldelfhohab
/- The library's contract of slices.Reverse, laid at this dump by the kit's own tool. -/
namespace Go.Proofs
open Go.Shelf
def Try.revPr_ren : Go.Shelf.Ren := ⟨fun | 35 => 15 | n => n, fun | 22 => 36 | 23 => 41 | 3 => 3 | 4 => 4 | 0 => 0 | n => n, fun | n => n⟩
theorem Try.revPr : Go.Proofs.SlLaysE0.n35 Try.prog Try.revPr_ren := {
  mixed := by kernel_rfl
  f35 := ⟨Try.f15.name, by decide, Try.func15.trans (congrArg some (by kernel_rfl))⟩
  t0 := Try.underlying0
  a0 := Try.isAgg0
  z0 := Try.sizeOf0
  v0 := Try.zeroValue0
  t3 := Try.underlying3
  a3 := Try.isAgg3
  z3 := Try.sizeOf3
  v3 := Try.zeroValue3
  t4 := Try.underlying4
  a4 := Try.isAgg4
  z4 := Try.sizeOf4
  v4 := Try.zeroValue4
  t22 := Try.underlying36
  a22 := Try.isAgg36
  z22 := Try.sizeOf36
  v22 := Try.zeroValue36 }
end Go.Proofs
/- slices.Reverse of pairs. -/
namespace Go.Proofs.Ytdcbgldelfhohab
namespace Tr
open Nb Go.RowKit Go.Sort Go.Shelf
abbrev S3 := Option Addr × Nat × Nat
abbrev S6 := S3 × S3
def n6 : S6 := ((none, 0, 0), (none, 0, 0))
def sv (s : S6) : V2 := (.slice s.1.1 s.1.2.1 s.1.2.2, .slice s.2.1 s.2.2.1 s.2.2.2)
def enc6 (s : S6) : List Value := [.slice s.1.1 s.1.2.1 s.1.2.2, .slice s.2.1 s.2.2.1 s.2.2.2]
def c6 (L : List S6) : List Value := c2p (L.map sv)
theorem c6_len (L : List S6) : (c6 L).length = L.length * 2 := by unfold c6; rw [c2p_len, List.length_map]
theorem c6_at : ∀ (L : List S6) (t : Nat), t < L.length * 2 → (c6 L)[t]? = some ((enc6 (L.getD (t / 2) n6))[t % 2]!)
  | [], t, h => absurd h (by simp)
  | r :: L, 0, _ => rfl
  | r :: L, 1, _ => rfl
  | r :: L, t + 2, h => by
    have ih := c6_at L t (by simp only [List.length_cons] at h; omega)
    have e1 : (t + 2) / 2 = t / 2 + 1 := by omega
    have e2 : (t + 2) % 2 = t % 2 := by omega
    rw [e1, e2, List.getD_cons_succ, ← ih]
    rfl
theorem flat6 (L : List S6) (t : Nat) (h : t < L.length * 2) : (flatK enc6 2 L.toArray)[t]! = (enc6 (L.getD (t / 2) n6))[t % 2]! := by
  rw [get_flatK enc6 2 L.toArray t (by simpa using h)]
  have hd : t / 2 < L.length := by omega
  have e : L.toArray[t / 2]! = L.getD (t / 2) n6 := by
    rw [List.getD_eq_getElem?_getD, List.getElem?_eq_getElem hd]
    simp [hd]
  rw [e]
theorem heap_rev {w : World} {g n : Nat} {cur : Array Value} {e : TypeId} {fr : Nat × Nat} (F : Array Value) (hb : w.heap[g]? = some (.cells cur e fr)) :
    (putRow id (Go.Sort.ahead w n) g 0 F).heap[g]? = some (.cells (putCells id 0 F cur) e fr) := by
  simp [putRow, mapBlock, Go.Sort.ahead, Array.getElem?_modify, hb, onCells]
theorem gb_rev {w : World} {g n : Nat} (F : Array Value) : w.grownBy (putRow id (Go.Sort.ahead w n) g 0 F) (some g) := by
  refine ⟨rfl, rfl, rfl, by simp [putRow, mapBlock, Go.Sort.ahead], fun k hk hne => ?_⟩
  have : g ≠ k := fun e => hne (by rw [e])
  simp [putRow, mapBlock, Go.Sort.ahead, Array.getElem?_modify, this]
theorem take_put6 (cur : Array Value) (L : List S6) (h : L.length * 2 ≤ cur.size) : (putCells id 0 (flatK enc6 2 L.toArray) cur).toList.take (L.length * 2) = c6 L := by
  apply List.ext_getElem?
  intro j
  by_cases hj : j < L.length * 2
  · rw [List.getElem?_take_of_lt hj, Array.getElem?_toList, c6_at L j hj, ← flat6 L j hj]
    have hc : j < cur.size := by omega
    simp [putCells, hj, hc]
  · rw [List.getElem?_take_eq_none (by omega), List.getElem?_eq_none (by rw [c6_len]; omega)]
theorem Po_s6 {b0 : Nat} {l : Rt} {v : Value} {W : World} (h : Po b0 l v W) : ∃ ss : List S6, ss.length = l.length ∧ W.ownsRow (b0 + 1) 41 2 v l.length (c6 ss) ∧ ∀ j, j < l.length → Bs (Sk b0 v) (l.getD j n2).1 (sv (ss.getD j n6)).1 W ∧ Bs (Sk b0 v) (l.getD j n2).2 (sv (ss.getD j n6)).2 W := by
  obtain ⟨vs, h1, h2, h3⟩ := h
  have HI : ∀ j, ∃ s : S6, j < l.length → vs.getD j m2 = sv s := fun j => by
    by_cases hj : j < l.length
    · obtain ⟨a, c, e1, _⟩ := Bs_form (h3 j hj).1
      obtain ⟨a2, c2, e2, _⟩ := Bs_form (h3 j hj).2
      exact ⟨((a, _, c), (a2, _, c2)), fun _ => Prod.ext e1 e2⟩
    · exact ⟨n6, fun h => absurd h hj⟩
  obtain ⟨F, hF⟩ := Classical.axiomOfChoice HI
  have hl : ((List.range l.length).map F).length = l.length := by simp
  have hv : vs = ((List.range l.length).map F).map sv := by
    apply List.ext_getElem
    · rw [List.length_map, hl, h1]
    · intro i i1 i2
      have hi : i < l.length := by omega
      have := hF i hi
      rw [List.getD_eq_getElem?_getD, List.getElem?_eq_getElem i1] at this
      simpa using this
  refine ⟨(List.range l.length).map F, hl, ?_, fun j hj => ?_⟩
  · unfold c6
    rw [← hv]
    exact h2
  · have e : sv (((List.range l.length).map F).getD j n6) = vs.getD j m2 := by
      rw [getD_range F l.length j n6 hj]
      exact (hF j hj).symm
    rw [e]
    exact h3 j hj
theorem getD_rev {α : Type} (L : List α) (j : Nat) (d : α) (hj : j < L.length) : L.reverse.getD j d = L.getD (L.length - 1 - j) d := by
  rw [List.getD_eq_getElem?_getD, List.getD_eq_getElem?_getD, List.getElem?_reverse hj]
theorem reverse_po {b0 : Nat} {l : Rt} {v : Value} {w : World} (h : Po b0 l v w) (hl : l.length ≤ 4194304) : Calls Try.prog 15 #[v] w fun e w' => e = .returned (.tuple #[]) ∧ Po b0 l.reverse v w' ∧ w.grownBy w' v.ownBlock ∧ (∀ q, v.ownBlock = some q → b0 < q) := by
  obtain ⟨ss, h1, h2, h3⟩ := Po_s6 h
  rcases h2.2 with ⟨h4, h5⟩ | ⟨g, cap, cur, h4, h5, h6, h7, h8, h9, h10⟩
  · subst h4
    have hcon := AnyQ.slices_Reverse_empty Try.revPr none 0 w
    have hcon' : Calls Try.prog 15 #[.slice none 0 0] w _ := hcon
    refine hcon'.mono fun e w' he => ?_
    obtain ⟨e1, rfl⟩ := he
    have el : l = [] := List.length_eq_zero_iff.1 h5
    subst el
    exact ⟨e1, h, ⟨rfl, rfl, rfl, Nat.le_refl _, fun _ _ _ => rfl⟩, fun q hq => by cases hq⟩
  · subst h4
    have hH : HoldsK enc6 2 w g 0 ss.toArray := fun j hj => by
      have hj' : j < ss.length * 2 := by simpa using hj
      refine ⟨?_, World.ownsRow.frozenAt h2 _⟩
      rw [Nat.zero_add, World.ownsRow.cellAt h2 j (by omega), c6_at ss j hj', flat6 ss j hj']
      rfl
    have hcon := AnyQ.slices_Reverse Try.revPr 2 Try.isAgg41 Try.sizeOf41 enc6 (fun _ => rfl) (fun x v hv => by simp [enc6] at hv; rcases hv with rfl | rfl <;> rfl) g 0 cap ss.toArray w hH (by simp; omega)
    have esz : ss.toArray.size = l.length := by simp [h1]
    rw [esz] at hcon
    have hcon' : Calls Try.prog 15 #[.slice (some ⟨g, 0, none⟩) l.length cap] w _ := hcon
    refine hcon'.mono fun e w' he => ?_
    obtain ⟨e1, n, rfl⟩ := he
    have erv : ss.toArray.reverse = ss.reverse.toArray := by simp
    rw [erv]
    have hgr : w.grownBy (putRow id (Go.Sort.ahead w n) g 0 (flatK enc6 2 ss.reverse.toArray)) (some g) := gb_rev _
    refine ⟨e1, ⟨ss.reverse.map sv, by simp [h1], ⟨?_, .inr ⟨g, cap, _, by rw [List.length_reverse], h5, heap_rev _ h6, by rw [List.length_reverse]; exact h7, h8, by simp [putCells, h9], ?_⟩⟩, fun j hj => ?_⟩, hgr, fun q hq => ?_⟩
    · rw [c2p_len, List.length_map, List.length_reverse, List.length_reverse, h1]
    · have h := take_put6 cur ss.reverse (by rw [List.length_reverse, h9]; omega)
      rw [List.length_reverse, h1] at h
      rw [List.length_reverse]
      exact h
    · rw [List.length_reverse] at hj
      have hj2 : l.length - 1 - j < l.length := by omega
      have e3 : (ss.reverse.map sv).getD j m2 = sv (ss.getD (l.length - 1 - j) n6) := by
        rw [List.getD_eq_getElem?_getD, List.getElem?_map, List.getElem?_reverse (by omega), h1, List.getElem?_eq_getElem (by omega), List.getD_eq_getElem?_getD, List.getElem?_eq_getElem (by omega)]
        rfl
      rw [getD_rev l j n2 hj, e3]
      exact ⟨Bs_gb (h3 _ hj2).1 hgr (fun k hk => hk.2), Bs_gb (h3 _ hj2).2 hgr (fun k hk => hk.2)⟩
    · have e : g = q := by injection hq
      omega
end Tr
end Go.Proofs.Ytdcbgldelfhohab
/- tree.Put, form by form. -/
namespace Go.Proofs.Ytdcbgldelfhohab
namespace Tr
open Nb Go.RowKit
theorem resN2 (f : Func) (tm : Array Value) (W : World) (g s z : Nat) (p q r t v : Value) (hf : f.results = #[.cell s 25, .tmp z]) (h : tm.getD s undef = .pointer (some ⟨g, 0, none⟩)) (h2 : tm.getD z undef = v) (c0 : W.cell? ⟨g, 0, none⟩ = some p) (c1 : W.cell? ⟨g, 1, none⟩ = some q) (c2 : W.cell? ⟨g, 2, none⟩ = some r) (c3 : W.cell? ⟨g, 3, none⟩ = some t) : (results f tm).run Try.prog W = .ok (.tuple #[.agg #[p, q, r, t], v]) W := by
  simp at h h2
  simp [results, hf, go_sem, h, h2, c0, c1, c2, c3]
theorem upon_inv {o : Oper} {a : Act} {w : World} {K : Act → World → Prop} {Q : Exit → Act → World → Prop} {name : String} {x : Value} {args : Array Value} {r : Result Next} {R : Ending → World → Prop} (hr : (callMethod x name args).run Try.prog w = r) (h : Inv name x args w R) (hm : ∀ e w', R e w' → ∃ v, e = .returned v ∧ K (a.put o.dst v) w') : o.upon Try.prog a K Q r := by
  obtain ⟨f, vs, h1, h2⟩ := h
  rw [← hr, h1]
  refine h2.mono fun e w' he => ?_
  obtain ⟨v, rfl, h3⟩ := hm e w' he
  exact h3
theorem B4_blk {G : Nat} {w w' : World} (h : B4 G w) (hs : w.heap.size ≤ w'.heap.size) (hb : w'.heap[G]? = w.heap[G]?) : B4 G w' :=
  ⟨Nat.lt_of_lt_of_le h.hi hs, fun o ho => by rw [World.cell?_of_block (a := ⟨G, o, none⟩) hb]; exact h.c o ho, fun o => (World.frozen?_of_block (a := ⟨G, o, none⟩) hb).trans (h.f o)⟩
/-- What is wrong with putting. -/
def mp (nk nv : Nat) : Int := if nk ≤ 32 then (if nv ≤ 1024 then 0 else 2) else 3
set_option maxHeartbeats 1000000 in
set_option maxRecDepth 100000 in
theorem mayput_any (ak av : Option Addr) (nk ck nv cv : Nat) (w : World) : Calls Try.prog 18 #[.slice ak nk ck, .slice av nv cv] w fun e w' => e = .returned (.int .i64 (mp nk nv)) ∧ w' = w := by
  have KK : Hid (∀ wx : World, Calls Try.prog 22 #[.slice ak nk ck] wx fun e w' => e = .returned (.bool (decide (nk ≤ 32))) ∧ w' = wx) := fun wx => iskey_any ak nk ck wx
  unfold mp
  by_cases h1 : nk ≤ 32
  · rw [if_pos h1]
    rw [decide_eq_true h1] at KK
    by_cases h2 : nv ≤ 1024
    · rw [if_pos h2]
      have d0 : decide ((1024 : Int) < (nv : Int)) = false := decide_eq_false (by omega)
      clear h1 h2
      go_enter Try.func18, Try.ntmps18
      go_wp2_with fail
      refine (KK.out _).mono ?_
      rintro e w1 ⟨rfl, rfl⟩
      go_wp2_with fail
      go_ret
      exact ⟨rfl, rfl⟩
    · rw [if_neg h2]
      have d0 : decide ((1024 : Int) < (nv : Int)) = true := decide_eq_true (by omega)
      clear h1 h2
      go_enter Try.func18, Try.ntmps18
      go_wp2_with fail
      refine (KK.out _).mono ?_
      rintro e w1 ⟨rfl, rfl⟩
      go_wp2_with fail
      go_ret
      exact ⟨rfl, rfl⟩
  · rw [if_neg h1]
    rw [decide_eq_false h1] at KK
    clear h1
    go_enter Try.func18, Try.ntmps18
    go_wp2_with fail
    refine (KK.out _).mono ?_
    rintro e w1 ⟨rfl, rfl⟩
    go_wp2_with fail
    go_ret
    exact ⟨rfl, rfl⟩
set_option maxHeartbeats 2000000 in
set_option maxRecDepth 100000 in
theorem put_form (k : Int) (a1 a2 a3 ak av : Option Addr) (n1 c1 m2 c2 n3 c3 nk ck nv cv : Nat) (w : World) (KR0 : ∀ wx : World, Below w.heap.size w wx → Calls Try.prog 17 #[.agg #[.int .i64 k, .slice a1 n1 c1, .slice a2 m2 c2, .slice a3 n3 c3], .int .i64 0] wx fun e w' => ∃ y, e = .returned (.tuple #[y, .bool false]) ∧ Below wx.heap.size wx w') :
    Calls Try.prog 8 #[.agg #[.int .i64 k, .slice a1 n1 c1, .slice a2 m2 c2, .slice a3 n3 c3], .slice ak nk ck, .slice av nv cv] w fun e w' => e = .returned (.tuple #[.agg #[.int .i64 0, .slice none 0 0, .slice none 0 0, .slice none 0 0], .int .i64 1]) ∧ Below w.heap.size w w' := by
  have b1 : Below w.heap.size w (w.alloc (.cells #[.int .i64 k, .slice a1 n1 c1, .slice a2 m2 c2, .slice a3 n3 c3] 25)) := (Below.refl _ _).alloc (Nat.le_refl _) _
  have hs1 : (w.alloc (.cells #[.int .i64 k, .slice a1 n1 c1, .slice a2 m2 c2, .slice a3 n3 c3] 25)).heap.size = w.heap.size + 1 := by simp
  have b2 : Below (w.alloc (.cells #[.int .i64 k, .slice a1 n1 c1, .slice a2 m2 c2, .slice a3 n3 c3] 25)).heap.size (w.alloc (.cells #[.int .i64 k, .slice a1 n1 c1, .slice a2 m2 c2, .slice a3 n3 c3] 25)) ((w.alloc (.cells #[.int .i64 k, .slice a1 n1 c1, .slice a2 m2 c2, .slice a3 n3 c3] 25)).alloc (.cells #[.int .i64 0, .slice none 0 0, .slice none 0 0, .slice none 0 0] 25)) := (Below.refl _ _).alloc (Nat.le_refl _) _
  have HB : Below w.heap.size w ((w.alloc (.cells #[.int .i64 k, .slice a1 n1 c1, .slice a2 m2 c2, .slice a3 n3 c3] 25)).alloc (.cells #[.int .i64 0, .slice none 0 0, .slice none 0 0, .slice none 0 0] 25)) := b1.trans (b2.mono b1.size)
  have hs2 : ((w.alloc (.cells #[.int .i64 k, .slice a1 n1 c1, .slice a2 m2 c2, .slice a3 n3 c3] 25)).alloc (.cells #[.int .i64 0, .slice none 0 0, .slice none 0 0, .slice none 0 0] 25)).heap.size = w.heap.size + 1 + 1 := by simp
  obtain ⟨_, q0, q1, q2, q3⟩ := Bx_new w (.int .i64 k, .slice a1 n1 c1, .slice a2 m2 c2, .slice a3 n3 c3)
  dsimp only at q0 q1 q2 q3
  replace q0 := (b2.cell (p := ⟨w.heap.size, 0, none⟩) (by show w.heap.size < _; omega)).trans q0
  replace q1 := (b2.cell (p := ⟨w.heap.size, 1, none⟩) (by show w.heap.size < _; omega)).trans q1
  replace q2 := (b2.cell (p := ⟨w.heap.size, 2, none⟩) (by show w.heap.size < _; omega)).trans q2
  replace q3 := (b2.cell (p := ⟨w.heap.size, 3, none⟩) (by show w.heap.size < _; omega)).trans q3
  have BV : B4 (w.heap.size + 1) ((w.alloc (.cells #[.int .i64 k, .slice a1 n1 c1, .slice a2 m2 c2, .slice a3 n3 c3] 25)).alloc (.cells #[.int .i64 0, .slice none 0 0, .slice none 0 0, .slice none 0 0] 25)) := by
    have := B4_new (w.alloc (.cells #[.int .i64 k, .slice a1 n1 c1, .slice a2 m2 c2, .slice a3 n3 c3] 25))
    rwa [hs1] at this
  have HBV : Hid (B4 (w.heap.size + 1) ((w.alloc (.cells #[.int .i64 k, .slice a1 n1 c1, .slice a2 m2 c2, .slice a3 n3 c3] 25)).alloc (.cells #[.int .i64 0, .slice none 0 0, .slice none 0 0, .slice none 0 0] 25))) := BV
  have HBB : Hid (Below w.heap.size w ((w.alloc (.cells #[.int .i64 k, .slice a1 n1 c1, .slice a2 m2 c2, .slice a3 n3 c3] 25)).alloc (.cells #[.int .i64 0, .slice none 0 0, .slice none 0 0, .slice none 0 0] 25))) := HB
  have KR : Hid (Calls Try.prog 17 #[.agg #[.int .i64 k, .slice a1 n1 c1, .slice a2 m2 c2, .slice a3 n3 c3], .int .i64 0] ((w.alloc (.cells #[.int .i64 k, .slice a1 n1 c1, .slice a2 m2 c2, .slice a3 n3 c3] 25)).alloc (.cells #[.int .i64 0, .slice none 0 0, .slice none 0 0, .slice none 0 0] 25)) fun e w' => ∃ y, e = .returned (.tuple #[y, .bool false]) ∧ Below ((w.alloc (.cells #[.int .i64 k, .slice a1 n1 c1, .slice a2 m2 c2, .slice a3 n3 c3] 25)).alloc (.cells #[.int .i64 0, .slice none 0 0, .slice none 0 0, .slice none 0 0] 25)).heap.size ((w.alloc (.cells #[.int .i64 k, .slice a1 n1 c1, .slice a2 m2 c2, .slice a3 n3 c3] 25)).alloc (.cells #[.int .i64 0, .slice none 0 0, .slice none 0 0, .slice none 0 0] 25)) w') := KR0 _ HB
  clear KR0 HB b1 b2 hs1 hs2 BV
  go_enter Try.func8, Try.ntmps8
  go_wp2_with fail
  refine KR.out.mono ?_
  rintro e w1 ⟨y, rfl, hb1⟩
  have HZ : Hid (Below w.heap.size w w1) := HBB.out.trans (hb1.mono HBB.out.size)
  have hbv : B4 (w.heap.size + 1) w1 := B4_gb (r := none) HBV.out (gb_below hb1) (fun e => by cases e)
  clear hb1 q0 q1 q2 q3
  go_wp2_with (refine wpList_st4 rfl rfl rfl rfl hbv ?_; intro w9 gb9 s0 s1 s2 s3)
  have B9 : Below w.heap.size w w9 := HZ.out.grown gb9 HZ.out.size (fun k e => by injection e with e; omega)
  exact bodyPost_ret (v := .tuple #[.agg #[.int .i64 0, .slice none 0 0, .slice none 0 0, .slice none 0 0], .int .i64 1]) (resN2 _ _ _ (w.heap.size + 1) 6 7 _ _ _ _ _ rfl rfl rfl s0 s1 s2 s3) rfl ⟨rfl, B9⟩
set_option maxHeartbeats 2000000 in
set_option maxRecDepth 100000 in
theorem put_err (k : Int) (a1 a2 a3 ak av : Option Addr) (n1 c1 m2 c2 n3 c3 nk ck nv cv : Nat) (w : World) (KR0 : ∀ wx : World, Below w.heap.size w wx → Calls Try.prog 17 #[.agg #[.int .i64 k, .slice a1 n1 c1, .slice a2 m2 c2, .slice a3 n3 c3], .int .i64 0] wx fun e w' => ∃ y, e = .returned (.tuple #[y, .bool true]) ∧ Below wx.heap.size wx w') (er : Int) (hne : (er == 0) = false) (KM : Hid (∀ wx : World, Calls Try.prog 18 #[.slice ak nk ck, .slice av nv cv] wx fun e w' => e = .returned (.int .i64 er) ∧ w' = wx)) :
    Calls Try.prog 8 #[.agg #[.int .i64 k, .slice a1 n1 c1, .slice a2 m2 c2, .slice a3 n3 c3], .slice ak nk ck, .slice av nv cv] w fun e w' => e = .returned (.tuple #[.agg #[.int .i64 0, .slice none 0 0, .slice none 0 0, .slice none 0 0], .int .i64 er]) ∧ Below w.heap.size w w' := by
  have b1 : Below w.heap.size w (w.alloc (.cells #[.int .i64 k, .slice a1 n1 c1, .slice a2 m2 c2, .slice a3 n3 c3] 25)) := (Below.refl _ _).alloc (Nat.le_refl _) _
  have hs1 : (w.alloc (.cells #[.int .i64 k, .slice a1 n1 c1, .slice a2 m2 c2, .slice a3 n3 c3] 25)).heap.size = w.heap.size + 1 := by simp
  have b2 : Below (w.alloc (.cells #[.int .i64 k, .slice a1 n1 c1, .slice a2 m2 c2, .slice a3 n3 c3] 25)).heap.size (w.alloc (.cells #[.int .i64 k, .slice a1 n1 c1, .slice a2 m2 c2, .slice a3 n3 c3] 25)) ((w.alloc (.cells #[.int .i64 k, .slice a1 n1 c1, .slice a2 m2 c2, .slice a3 n3 c3] 25)).alloc (.cells #[.int .i64 0, .slice none 0 0, .slice none 0 0, .slice none 0 0] 25)) := (Below.refl _ _).alloc (Nat.le_refl _) _
  have HB : Below w.heap.size w ((w.alloc (.cells #[.int .i64 k, .slice a1 n1 c1, .slice a2 m2 c2, .slice a3 n3 c3] 25)).alloc (.cells #[.int .i64 0, .slice none 0 0, .slice none 0 0, .slice none 0 0] 25)) := b1.trans (b2.mono b1.size)
  have hs2 : ((w.alloc (.cells #[.int .i64 k, .slice a1 n1 c1, .slice a2 m2 c2, .slice a3 n3 c3] 25)).alloc (.cells #[.int .i64 0, .slice none 0 0, .slice none 0 0, .slice none 0 0] 25)).heap.size = w.heap.size + 1 + 1 := by simp
  obtain ⟨_, q0, q1, q2, q3⟩ := Bx_new w (.int .i64 k, .slice a1 n1 c1, .slice a2 m2 c2, .slice a3 n3 c3)
  dsimp only at q0 q1 q2 q3
  replace q0 := (b2.cell (p := ⟨w.heap.size, 0, none⟩) (by show w.heap.size < _; omega)).trans q0
  replace q1 := (b2.cell (p := ⟨w.heap.size, 1, none⟩) (by show w.heap.size < _; omega)).trans q1
  replace q2 := (b2.cell (p := ⟨w.heap.size, 2, none⟩) (by show w.heap.size < _; omega)).trans q2
  replace q3 := (b2.cell (p := ⟨w.heap.size, 3, none⟩) (by show w.heap.size < _; omega)).trans q3
  have BV : B4 (w.heap.size + 1) ((w.alloc (.cells #[.int .i64 k, .slice a1 n1 c1, .slice a2 m2 c2, .slice a3 n3 c3] 25)).alloc (.cells #[.int .i64 0, .slice none 0 0, .slice none 0 0, .slice none 0 0] 25)) := by
    have := B4_new (w.alloc (.cells #[.int .i64 k, .slice a1 n1 c1, .slice a2 m2 c2, .slice a3 n3 c3] 25))
    rwa [hs1] at this
  have HBV : Hid (B4 (w.heap.size + 1) ((w.alloc (.cells #[.int .i64 k, .slice a1 n1 c1, .slice a2 m2 c2, .slice a3 n3 c3] 25)).alloc (.cells #[.int .i64 0, .slice none 0 0, .slice none 0 0, .slice none 0 0] 25))) := BV
  have HBB : Hid (Below w.heap.size w ((w.alloc (.cells #[.int .i64 k, .slice a1 n1 c1, .slice a2 m2 c2, .slice a3 n3 c3] 25)).alloc (.cells #[.int .i64 0, .slice none 0 0, .slice none 0 0, .slice none 0 0] 25))) := HB
  have KR : Hid (Calls Try.prog 17 #[.agg #[.int .i64 k, .slice a1 n1 c1, .slice a2 m2 c2, .slice a3 n3 c3], .int .i64 0] ((w.alloc (.cells #[.int .i64 k, .slice a1 n1 c1, .slice a2 m2 c2, .slice a3 n3 c3] 25)).alloc (.cells #[.int .i64 0, .slice none 0 0, .slice none 0 0, .slice none 0 0] 25)) fun e w' => ∃ y, e = .returned (.tuple #[y, .bool true]) ∧ Below ((w.alloc (.cells #[.int .i64 k, .slice a1 n1 c1, .slice a2 m2 c2, .slice a3 n3 c3] 25)).alloc (.cells #[.int .i64 0, .slice none 0 0, .slice none 0 0, .slice none 0 0] 25)).heap.size ((w.alloc (.cells #[.int .i64 k, .slice a1 n1 c1, .slice a2 m2 c2, .slice a3 n3 c3] 25)).alloc (.cells #[.int .i64 0, .slice none 0 0, .slice none 0 0, .slice none 0 0] 25)) w') := KR0 _ HB
  clear KR0 HB b1 b2 hs1 hs2 BV
  go_enter Try.func8, Try.ntmps8
  go_wp2_with fail
  refine KR.out.mono ?_
  rintro e w1 ⟨y, rfl, hb1⟩
  have HZ : Hid (Below w.heap.size w w1) := HBB.out.trans (hb1.mono HBB.out.size)
  have hbv : Hid (B4 (w.heap.size + 1) w1) := B4_gb (r := none) HBV.out (gb_below hb1) (fun e => by cases e)
  clear hb1 q0 q1 q2 q3
  go_wp2_with fail
  refine (KM.out _).mono ?_
  rintro e w2 ⟨rfl, rfl⟩
  have hbv2 := hbv.out
  go_wp2_with (refine wpList_st4 rfl rfl rfl rfl hbv2 ?_; intro w9 gb9 s0 s1 s2 s3)
  have B9 : Below w.heap.size w w9 := HZ.out.grown gb9 HZ.out.size (fun k e => by injection e with e; omega)
  exact bodyPost_ret (v := .tuple #[.agg #[.int .i64 0, .slice none 0 0, .slice none 0 0, .slice none 0 0], .int .i64 er]) (resN2 _ _ _ (w.heap.size + 1) 6 7 _ _ _ _ _ rfl rfl rfl s0 s1 s2 s3) rfl ⟨rfl, B9⟩
set_option maxHeartbeats 2000000 in
set_option maxRecDepth 100000 in
theorem put_value (k : Int) (a1 a2 a3 ak av : Option Addr) (n1 c1 m2 c2 n3 c3 nk ck nv cv : Nat) (w : World) (kh x : By) (t : Nd) (KR0 : ∀ wx : World, Below w.heap.size w wx → Calls Try.prog 17 #[.agg #[.int .i64 k, .slice a1 n1 c1, .slice a2 m2 c2, .slice a3 n3 c3], .int .i64 0] wx fun e w' => ∃ y, e = .returned (.tuple #[y, .bool true]) ∧ In w.heap.size w' t y (fun z => wx.heap.size ≤ z) ∧ Below wx.heap.size wx w')
    (KM : Hid (∀ wx : World, Calls Try.prog 18 #[.slice ak nk ck, .slice av nv cv] wx fun e w' => e = .returned (.int .i64 0) ∧ w' = wx))
    (KH0 : Hid (∀ wx : World, Below w.heap.size w wx → Calls Try.prog 20 #[.slice ak nk ck] wx fun e w' => ∃ a n c, e = .returned (.slice a n c) ∧ Bs (Sb w.heap.size w') kh (.slice a n c) w' ∧ Below wx.heap.size wx w'))
    (KP0 : Hid (∀ (y pv : Value) (F : Nat → Prop) (wx : World), In w.heap.size wx t y F → Bs (Sb w.heap.size wx) kh pv wx → Below w.heap.size w wx → Calls Try.prog 19 #[y, pv, .slice av nv cv] wx fun e w' => ∃ y', e = .returned y' ∧ Kid w.heap.size wx t kh x F y' w'))
    (KQ0 : Hid (∀ (t' : Nd) (y : Value) (F : Nat → Prop) (wx : World), In w.heap.size wx t' y F → Rs t' → Up t' t kh x → Inv "lampbearer/tree.plain" y #[] wx (PN wx (bn t')))) :
    Calls Try.prog 8 #[.agg #[.int .i64 k, .slice a1 n1 c1, .slice a2 m2 c2, .slice a3 n3 c3], .slice ak nk ck, .slice av nv cv] w fun e w' => ∃ (t' : Nd) (u : V4), e = .returned (.tuple #[v4 u, .int .i64 0]) ∧ Nv (w.heap.size ≤ ·) w' (bn t') u ∧ Rs t' ∧ Up t' t kh x ∧ Below w.heap.size w w' := by
  have b1 : Below w.heap.size w (w.alloc (.cells #[.int .i64 k, .slice a1 n1 c1, .slice a2 m2 c2, .slice a3 n3 c3] 25)) := (Below.refl _ _).alloc (Nat.le_refl _) _
  have hs1 : (w.alloc (.cells #[.int .i64 k, .slice a1 n1 c1, .slice a2 m2 c2, .slice a3 n3 c3] 25)).heap.size = w.heap.size + 1 := by simp
  have b2 : Below (w.alloc (.cells #[.int .i64 k, .slice a1 n1 c1, .slice a2 m2 c2, .slice a3 n3 c3] 25)).heap.size (w.alloc (.cells #[.int .i64 k, .slice a1 n1 c1, .slice a2 m2 c2, .slice a3 n3 c3] 25)) ((w.alloc (.cells #[.int .i64 k, .slice a1 n1 c1, .slice a2 m2 c2, .slice a3 n3 c3] 25)).alloc (.cells #[.int .i64 0, .slice none 0 0, .slice none 0 0, .slice none 0 0] 25)) := (Below.refl _ _).alloc (Nat.le_refl _) _
  have HB : Below w.heap.size w ((w.alloc (.cells #[.int .i64 k, .slice a1 n1 c1, .slice a2 m2 c2, .slice a3 n3 c3] 25)).alloc (.cells #[.int .i64 0, .slice none 0 0, .slice none 0 0, .slice none 0 0] 25)) := b1.trans (b2.mono b1.size)
  have hs2 : ((w.alloc (.cells #[.int .i64 k, .slice a1 n1 c1, .slice a2 m2 c2, .slice a3 n3 c3] 25)).alloc (.cells #[.int .i64 0, .slice none 0 0, .slice none 0 0, .slice none 0 0] 25)).heap.size = w.heap.size + 1 + 1 := by simp
  obtain ⟨_, q0, q1, q2, q3⟩ := Bx_new w (.int .i64 k, .slice a1 n1 c1, .slice a2 m2 c2, .slice a3 n3 c3)
  dsimp only at q0 q1 q2 q3
  replace q0 := (b2.cell (p := ⟨w.heap.size, 0, none⟩) (by show w.heap.size < _; omega)).trans q0
  replace q1 := (b2.cell (p := ⟨w.heap.size, 1, none⟩) (by show w.heap.size < _; omega)).trans q1
  replace q2 := (b2.cell (p := ⟨w.heap.size, 2, none⟩) (by show w.heap.size < _; omega)).trans q2
  replace q3 := (b2.cell (p := ⟨w.heap.size, 3, none⟩) (by show w.heap.size < _; omega)).trans q3
  have BV : B4 (w.heap.size + 1) ((w.alloc (.cells #[.int .i64 k, .slice a1 n1 c1, .slice a2 m2 c2, .slice a3 n3 c3] 25)).alloc (.cells #[.int .i64 0, .slice none 0 0, .slice none 0 0, .slice none 0 0] 25)) := by
    have := B4_new (w.alloc (.cells #[.int .i64 k, .slice a1 n1 c1, .slice a2 m2 c2, .slice a3 n3 c3] 25))
    rwa [hs1] at this
  have HBV : Hid (B4 (w.heap.size + 1) ((w.alloc (.cells #[.int .i64 k, .slice a1 n1 c1, .slice a2 m2 c2, .slice a3 n3 c3] 25)).alloc (.cells #[.int .i64 0, .slice none 0 0, .slice none 0 0, .slice none 0 0] 25))) := BV
  have HBB : Hid (Below w.heap.size w ((w.alloc (.cells #[.int .i64 k, .slice a1 n1 c1, .slice a2 m2 c2, .slice a3 n3 c3] 25)).alloc (.cells #[.int .i64 0, .slice none 0 0, .slice none 0 0, .slice none 0 0] 25))) := HB
  have KR : Hid (Calls Try.prog 17 #[.agg #[.int .i64 k, .slice a1 n1 c1, .slice a2 m2 c2, .slice a3 n3 c3], .int .i64 0] ((w.alloc (.cells #[.int .i64 k, .slice a1 n1 c1, .slice a2 m2 c2, .slice a3 n3 c3] 25)).alloc (.cells #[.int .i64 0, .slice none 0 0, .slice none 0 0, .slice none 0 0] 25)) fun e w' => ∃ y, e = .returned (.tuple #[y, .bool true]) ∧ In w.heap.size w' t y (fun z => ((w.alloc (.cells #[.int .i64 k, .slice a1 n1 c1, .slice a2 m2 c2, .slice a3 n3 c3] 25)).alloc (.cells #[.int .i64 0, .slice none 0 0, .slice none 0 0, .slice none 0 0] 25)).heap.size ≤ z) ∧ Below ((w.alloc (.cells #[.int .i64 k, .slice a1 n1 c1, .slice a2 m2 c2, .slice a3 n3 c3] 25)).alloc (.cells #[.int .i64 0, .slice none 0 0, .slice none 0 0, .slice none 0 0] 25)).heap.size ((w.alloc (.cells #[.int .i64 k, .slice a1 n1 c1, .slice a2 m2 c2, .slice a3 n3 c3] 25)).alloc (.cells #[.int .i64 0, .slice none 0 0, .slice none 0 0, .slice none 0 0] 25)) w') := KR0 _ HB
  have HS2 : Hid (((w.alloc (.cells #[.int .i64 k, .slice a1 n1 c1, .slice a2 m2 c2, .slice a3 n3 c3] 25)).alloc (.cells #[.int .i64 0, .slice none 0 0, .slice none 0 0, .slice none 0 0] 25)).heap.size = w.heap.size + 1 + 1) := hs2
  clear KR0 HB b1 b2 hs1 hs2 BV
  go_enter Try.func8, Try.ntmps8
  go_wp2_with fail
  refine KR.out.mono ?_
  rintro e w1 ⟨y, rfl, hin, hb1⟩
  obtain ⟨ty, yy, rfl⟩ := In_form hin
  have HZ : Hid (Below w.heap.size w w1) := HBB.out.trans (hb1.mono HBB.out.size)
  have hbv : Hid (B4 (w.heap.size + 1) w1) := B4_gb (r := none) HBV.out (gb_below hb1) (fun e => by cases e)
  rw [HS2.out] at hin
  have HIN : Hid (In w.heap.size w1 t (.iface ty yy) (fun z => w.heap.size + 1 + 1 ≤ z)) := hin
  clear hb1 hin q0 q1 q2 q3 KR HBV HBB HS2
  go_wp2_with fail
  refine (KM.out _).mono ?_
  rintro e w2 ⟨rfl, rfl⟩
  go_wp2_with fail
  refine (KH0.out _ HZ.out).mono ?_
  rintro e w3 ⟨ha, hn, hc, rfl, hkh, hb3⟩
  have HZ3 : Hid (Below w.heap.size w w3) := HZ.out.trans (hb3.mono HZ.out.size)
  have HIN3 : Hid (In w.heap.size w3 t (.iface ty yy) (fun z => w.heap.size + 1 + 1 ≤ z)) := In_below HIN.out hb3
  have hbv3 : Hid (B4 (w.heap.size + 1) w3) := B4_gb (r := none) hbv.out (gb_below hb3) (fun e => by cases e)
  have HKH : Hid (Bs (Sb w.heap.size w3) kh (.slice ha hn hc) w3) := hkh
  clear hkh hb3 HZ hbv HIN
  go_wp2_with fail
  refine (KP0.out _ _ _ _ HIN3.out HKH.out HZ3.out).mono ?_
  rintro e w4 ⟨y', rfl, t', F', hin4, hrs, hup, hF, hch⟩
  obtain ⟨ty4, yy4, rfl⟩ := In_form hin4
  have HZ4 : Hid (Below w.heap.size w w4) := HZ3.out.trans (below_ch hch HZ3.out.size)
  have hbv4 : Hid (B4 (w.heap.size + 1) w4) := B4_blk hbv3.out hch.size (hch.block _ hbv3.out.hi (fun h => by have := h.1; omega))
  have HRS : Hid (Rs t') := hrs
  have HUP : Hid (Up t' t kh x) := hup
  have KQ : Hid (Inv "lampbearer/tree.plain" (.iface ty4 yy4) #[] w4 (PN w4 (bn t'))) := KQ0.out t' _ F' w4 hin4 hrs hup
  clear hin4 hrs hup hF hch HZ3 HIN3 HKH hbv3 KP0 KQ0 KH0
  go_wp2_with fail
  refine upon_inv (by simp only [callMethod]; go_simp) KQ.out ?_
  rintro e w5 ⟨u, rfl, hn5, hb5⟩
  obtain ⟨uk, ua1, un1, uc1, ua2, un2, uc2, ua3, un3, uc3, rfl⟩ := Nv_form hn5
  have hbv5 : B4 (w.heap.size + 1) w5 := B4_gb (r := none) hbv4.out (gb_below hb5) (fun e => by cases e)
  have HZ5 : Hid (Below w.heap.size w w5) := HZ4.out.trans (hb5.mono HZ4.out.size)
  have HG4 : Hid (w.heap.size + 1 < w4.heap.size) := hbv4.out.hi
  have HN5 : Hid (Nv (w4.heap.size ≤ ·) w5 (bn t') (.int .i64 uk, .slice ua1 un1 uc1, .slice ua2 un2 uc2, .slice ua3 un3 uc3)) := hn5
  clear hn5 hb5 hbv4 HZ4 KQ
  refine ⟨_, rfl, ?_⟩
  simp only [Act.put, v4]
  go_wp2_with (refine wpList_st4 rfl rfl rfl rfl hbv5 ?_; intro w9 gb9 s0 s1 s2 s3)
  have B9 : Below w.heap.size w w9 := HZ5.out.grown gb9 HZ5.out.size (fun k e => by injection e with e; omega)
  have N9 : Nv (w.heap.size ≤ ·) w9 (bn t') (.int .i64 uk, .slice ua1 un1 uc1, .slice ua2 un2 uc2, .slice ua3 un3 uc3) :=
    Nv_mono (Nv_gb HN5.out gb9 (fun k hk e => by injection e with e; have := HG4.out; omega)) (fun k hk _ => by have := HG4.out; omega)
  exact bodyPost_ret (v := .tuple #[.agg #[.int .i64 uk, .slice ua1 un1 uc1, .slice ua2 un2 uc2, .slice ua3 un3 uc3], .int .i64 0]) (resN2 _ _ _ (w.heap.size + 1) 6 7 _ _ _ _ _ rfl rfl rfl s0 s1 s2 s3) rfl ⟨t', (.int .i64 uk, .slice ua1 un1 uc1, .slice ua2 un2 uc2, .slice ua3 un3 uc3), rfl, N9, HRS.out, HUP.out, B9⟩
end Tr
end Go.Proofs.Ytdcbgldelfhohab
/- tree.Put at every argument. -/
namespace Go.Proofs.Ytdcbgldelfhohab
namespace Tr
open Nb Go.RowKit
/-- What is wrong with a put. -/
def pe (t : Nd) (b y : By) : Int := if rd 0 t = true then mp b.length y.length else 1
/-- What a put answers: a tree that has what it should, or nothing. -/
def PR (t : Nd) (b y : By) (r : Nd) : Prop := if pe t b y = 0 then ∃ t', r = bn t' ∧ Rs t' ∧ Up t' t (hv b) y else r = Nd.no
theorem mp_zero {n m : Nat} (h : mp n m = 0) : n ≤ 32 ∧ m ≤ 1024 := by
  unfold mp at h
  split at h
  · split at h
    · exact ⟨by assumption, by assumption⟩
    · cases h
  · cases h
theorem gt_len' {t : Nd} (h : Right t) (q : By) : (gt t q).length ≤ 1024 := by
  by_cases e : gt t q = []
  · rw [e]; exact Nat.zero_le _
  · exact (h.2 q e).2.2.2
theorem hv_len (b : By) : (hv b).length = 2 * b.length := by
  induction b with
  | nil => rfl
  | cons c r ih => rw [hv]; simp [ih]; omega
theorem tput_any (t : Nd) (S T T' : Nat → Prop) (x : V4) (w : World) (hx : Nv S w t x) (hw : wn t ≤ 4194304) (b : By) (kv : Value) (hb : Bs T b kv w) (y : By) (yv : Value) (hy : Bs T' y yv w) :
    Calls Try.prog 8 #[v4 x, kv, yv] w fun e w' => ∃ (r : Nd) (u : V4), e = .returned (.tuple #[v4 u, .int .i64 (pe t b y)]) ∧ Nv (w.heap.size ≤ ·) w' r u ∧ PR t b y r ∧ Below w.heap.size w w' := by
  have hx := Nv_mono (S' := (· < w.heap.size)) hx (fun k _ h => h)
  have hb := Bs_mono (S' := (· < w.heap.size)) hb (fun k _ h => h)
  have hy := Bs_mono (S' := (· < w.heap.size)) hy (fun k _ h => h)
  obtain ⟨k, a1, n1, c1, a2, m2, c2, a3, n3, c3, rfl⟩ := Nv_form hx
  obtain ⟨ak, ck, rfl, _⟩ := Bs_form hb
  obtain ⟨av, cv, rfl, _⟩ := Bs_form hy
  have KR : ∀ wx : World, Below w.heap.size w wx → Calls Try.prog 17 #[.agg #[.int .i64 k, .slice a1 n1 c1, .slice a2 m2 c2, .slice a3 n3 c3], .int .i64 0] wx (RP w.heap.size 0 t wx) := fun wx h => (read_all w.heap.size (wf_any t)).1 0 (.int .i64 k, .slice a1 n1 c1, .slice a2 m2 c2, .slice a3 n3 c3) wx (by omega) (Nv_below hx h) h.size hw
  cases hr : rd 0 t with
  | false =>
    have hp : pe t b y = 1 := by unfold pe; rw [hr]; rfl
    have hPR : PR t b y Nd.no := by unfold PR; rw [hp, if_neg (by decide)]
    rw [hp]
    refine (put_form k a1 a2 a3 ak av n1 c1 m2 c2 n3 c3 b.length ck y.length cv w (fun wx h => (KR wx h).mono fun e w' he => ?_)).mono fun e w' he => ?_
    · obtain ⟨z, h1, _, h3⟩ := he
      rw [hr] at h1
      exact ⟨z, h1, h3⟩
    · exact ⟨Nd.no, (.int .i64 0, .slice none 0 0, .slice none 0 0, .slice none 0 0), he.1, Nv_no _ _, hPR, he.2⟩
  | true =>
    have hp : pe t b y = mp b.length y.length := by unfold pe; rw [hr]; rfl
    by_cases hm : mp b.length y.length = 0
    · have hp0 : pe t b y = 0 := hp.trans hm
      have hR := (rd_right t).1 hr
      obtain ⟨l1, l2⟩ := mp_zero hm
      have hl := hv_len b
      refine (put_value k a1 a2 a3 ak av n1 c1 m2 c2 n3 c3 b.length ck y.length cv w (hv b) y t (fun wx h => (KR wx h).mono fun e w' he => ?_) (fun wx => ?_) (fun wx h => ?_) (fun z pv F wx hin hpv hbl => ?_) (fun t' z F wx hin hrs hup => ?_)).mono fun e w' he => ?_
      · obtain ⟨z, h1, h2, h3⟩ := he
        rw [hr] at h1
        exact ⟨z, h1, h2 hr, h3⟩
      · have := mayput_any ak av b.length ck y.length cv wx
        rwa [hm] at this
      · exact halves_bs (Bs_below hb h) (by omega)
      · exact put_all w.heap.size 64 (by omega) _ t (hv b) y z pv _ F wx (Nat.le_refl _) hin hR.1 (fun q hq => (hR.2 q hq).2.1) (by omega) hpv (Bs_lo (Bs_below hy hbl)) (pt_hv b) hbl.size
      · refine plain_all (N := 64) (M := 1024) hin (by omega) (by omega) hrs (fun q hq => ?_) (fun q => ?_) wx (Below.refl _ _)
        · rw [hup q] at hq
          split at hq
          · rename_i e; rw [e, hl]; omega
          · exact (hR.2 q hq).2.1
        · rw [hup q]
          split
          · exact l2
          · exact gt_len' hR q
      · obtain ⟨t', u, h1, h2, h3, h4, h5⟩ := he
        rw [hp0]
        exact ⟨bn t', u, h1, h2, by unfold PR; rw [if_pos hp0]; exact ⟨t', rfl, h3, h4⟩, h5⟩
    · have hPR : PR t b y Nd.no := by unfold PR; rw [hp, if_neg hm]
      rw [hp]
      refine (put_err k a1 a2 a3 ak av n1 c1 m2 c2 n3 c3 b.length ck y.length cv w (fun wx h => (KR wx h).mono fun e w' he => ?_) _ (beq_eq_false_iff_ne.2 hm) (fun wx => mayput_any ak av b.length ck y.length cv wx)).mono fun e w' he => ?_
      · obtain ⟨z, h1, _, h3⟩ := he
        rw [hr] at h1
        exact ⟨z, h1, h3⟩
      · exact ⟨Nd.no, (.int .i64 0, .slice none 0 0, .slice none 0 0, .slice none 0 0), he.1, Nv_no _ _, hPR, he.2⟩
end Tr
end Go.Proofs.Ytdcbgldelfhohab
/- lampbearerref.grown: a fork. -/
namespace Go.Proofs.Ytdcbgldelfhohab
namespace Tr
open Nb Go.RowKit
theorem there_sub {w : World} {g i : Nat} (h : w.there g 0 64) (hi : i < 16) : w.there g (i * 4) 4 := fun j hj => by
  have := h (i * 4 + j) (by omega)
  rwa [Nat.zero_add] at this
structure GV (w : World) (B g2 g4 gk : Nat) (v : By) (T : Nat → Nd) (f8 f9 : Bool) (sl u0 : Value) (wx : World) : Prop where
  a : f8 = false → GO w B g2 g4 gk [] (.slice none 0 0) T 0 wx
  b : Below w.heap.size w wx
  e : f8 = true → ∃ a c, GO w B g2 g4 gk v (.slice a v.length c) T 0 wx
  m : f9 = false → u0 = sl
theorem GV_set {w : World} {B g2 g4 gk : Nat} {v : By} {T : Nat → Nd} {wx : World} {a : Option Addr} {c : Nat} (h : GO w B g2 g4 gk [] (.slice none 0 0) T 0 wx) (hne : g2 ≠ g4 ∧ gk ≠ g4 ∧ g4 < B ∧ w.heap.size ≤ g4) (hb : Bs (B ≤ ·) v (.slice a v.length c) wx) : GO w B g2 g4 gk v (.slice a v.length c) T 0 (wx.setCell ⟨g4, 2, none⟩ (.slice a v.length c)) := by
  have gb := gb_set wx g4 2 (.slice a v.length c)
  have NE : ∀ k, B ≤ k → some k ≠ some g4 := fun k hk e => by injection e with e; omega
  exact ⟨h.b.grown gb h.b.size (fun k e => by injection e with e; omega), Nat.le_trans h.s gb.size, B4_gb h.v gb (fun e => by injection e with e; exact hne.1 e), F4_set h.f _, KB_gb h.k gb (fun e => by injection e with e; exact hne.2.1 e) NE, Bs_gb hb gb NE⟩
theorem st_head : ∀ (x : By) (_ : x ≠ []) (h : 0 < (st x).size), ((st x)[0]'h).toNat = (x.headD 0).toNat
  | [], hx, _ => absurd rfl hx
  | _ :: _, _, _ => rfl
theorem msr_up' (k n : Nat) (h : k < n) : ((n : Int) - intOf (.int .i64 ((k : Int) + 1))).toNat < ((n : Int) - intOf (.int .i64 (k : Int))).toNat := by
  simp only [intOf]
  omega
inductive GV10 (w : World) (B : Nat) (T : Nat → Nd) (v : By) (g off n m cap g2 g4 gk : Nat) (X V : ByteArray) (v27 v28 v29 v30 v31 v32 v33 v34 v35 v36 v37 v38 v39 v40 : Value) (d : Nat → Bool) (x : Act) (wx : World) : Prop where
  | mk (u0 u63 u64 u65 u66 u67 u68 u69 u70 : Value) (hx : x = { tmps := #[u0, undef, .pointer (some ⟨g2, 0, none⟩), .int .i64 0, .pointer (some ⟨g4, 0, none⟩), undef, undef, undef, undef, .slice (some ⟨g, off, none⟩) n cap, .int .i64 (n : Int), .bool false, undef, .slice (some ⟨g, off, none⟩) n cap, .int .i64 (n : Int), .bool false, undef, undef, undef, undef, undef, undef, undef, undef, undef, undef, undef, v27, v28, v29, v30, v31, v32, v33, v34, v35, v36, v37, v38, v39, v40, .int .i64 0, .bool false, undef, undef, undef, undef, undef, undef, undef, undef, undef, undef, undef, undef, undef, .slice (some ⟨gk, 0, none⟩) 16 16, .agg #[.int .i64 3, .slice none 0 0, .slice none 0 0, .slice (some ⟨gk, 0, none⟩) 16 16], .slice (some ⟨g, off, none⟩) n cap, .pointer (some ⟨g, off, none⟩), .pointer (some ⟨g, off, none⟩), .string X, .bool true, u63, u64, u65, u66, u67, u68, u69, u70, undef, undef, undef, undef, undef, undef, undef, undef, undef, undef, undef, undef, undef, undef, undef, undef, undef, undef, undef, undef, undef, undef, undef, undef, undef, undef, undef, undef, undef], defers := [] }) (hw : GV w B g2 g4 gk v T (d 8) (d 9) (.slice (some ⟨g, off, none⟩) n cap) u0 wx) (p0 : d 0 = true → u63 = .slice (some ⟨g, off, none⟩) n cap) (p1 : d 1 = true → u64 = .pointer (some ⟨g, off, none⟩)) (p2 : d 2 = true → u65 = .pointer (some ⟨g, off + 1, none⟩)) (p3 : d 3 = true → u66 = .string V) (p5 : d 5 = true → u68 = .slice (some ⟨g, off, none⟩) n cap) (p6 : d 6 = true → u69 = .slice (some ⟨g, off + 2, none⟩) m (cap - 1)) (p7 : d 7 = true → u70 = .pointer (some ⟨g4, 2, none⟩)) (p9 : d 9 = true → u0 = .slice (some ⟨g, off + 2, none⟩) m (cap - 1)) (z4 : d 4 = true → ∃ a c, u67 = .slice a v.length c ∧ (d 8 = false → Bs (B ≤ ·) v (.slice a v.length c) wx)) (y8 : d 8 = true → d 4 = true) (y9 : d 9 = true → d 0 = true ∧ d 5 = true) : GV10 w B T v g off n m cap g2 g4 gk X V v27 v28 v29 v30 v31 v32 v33 v34 v35 v36 v37 v38 v39 v40 d x wx
end Tr
end Go.Proofs.Ytdcbgldelfhohab
/- lampbearerref.NCommon; the law NibCommon. -/
namespace Go.Proofs.Ytdcbgldelfhohab
namespace Nb
open Go.RowKit
theorem vw_tail {x : UInt8} {p : List UInt8} {g off : Nat} {a1 : Option Addr} {w w' : World} (hg : g < w.heap.size) (hc : ∀ j, j < (x :: p).length → w.cell? ⟨g, off + j, none⟩ = some (.int .u8 (Sp.bz (x :: p) j))) (ha : 0 < p.length → a1 = some ⟨g, off + 1, none⟩) (hb : Below w.heap.size w w') : Sp.Vw p a1 w' := fun h0 => by
  refine ⟨g, off + 1, ha h0, Nat.lt_of_lt_of_le hg hb.size, fun j hj => ?_⟩
  have k := hc (j + 1) (by rw [List.length_cons]; omega)
  rw [hb.cell (p := ⟨g, off + 1 + j, none⟩) hg, show off + 1 + j = off + (j + 1) by omega, k]
  rfl
end Nb
end Go.Proofs.Ytdcbgldelfhohab
/- lampbearerref.grown at every list in order; lampbearerref.GRight. -/
namespace Go.Proofs.Ytdcbgldelfhohab
namespace Tr
open Nb Go.RowKit
theorem srt_cut {c : Nat} {p : By} {l : Rt} (hc : p.length = c) (h : ∀ r ∈ l, p <+: r.1) (hs : Srt l) : Srt (cut c l) := by
  have := pre_cut h
  rw [hc] at this
  rw [← this, srt_pre] at hs
  exact hs
theorem srt_sub {l : Rt} (f : By × By → Bool) (hs : Srt l) : Srt (l.filter f) := List.Pairwise.filter f hs
theorem getLast_getD (a b : By × By) (l : Rt) : (b :: l).getLast (by simp) = (a :: b :: l).getD (l.length + 1) n2 := by
  rw [List.getD_cons_succ, List.getLast_eq_getElem, List.getD_eq_getElem?_getD, List.getElem?_eq_getElem (by simp)]
  simp
end Tr
end Go.Proofs.Ytdcbgldelfhohab
/- lampbearerref.GPut, form by form. -/
namespace Go.Proofs.Ytdcbgldelfhohab
namespace Tr
open Nb Go.RowKit

end Tr
end Go.Proofs.Ytdcbgldelfhohab
/- lampbearerref.GGet. -/
namespace Go.Proofs.Ytdcbgldelfhohab
namespace Tr
open Nb Go.RowKit
theorem slc_bs {b : By} {v : Value} {w : World} (h : SlC b v w) : Bs (fun _ => True) b v w := by
  obtain ⟨ao, cap, h1, h2, _, h3⟩ := h
  refine ⟨ao, cap, h1, h2, fun h0 => ?_⟩
  obtain ⟨k, off, e, hlt, hc⟩ := h3 h0
  exact ⟨k, off, e, trivial, hlt, hc⟩
theorem st_eq (a b : By) : ((st a).toList == (st b).toList) = decide (a = b) := by
  rw [st_list, st_list, Bool.eq_iff_iff, beq_iff_eq, decide_eq_true_iff]
inductive GGR (W0 : World) (kh : By) (X Y : ByteArray) (k : Int) (a1 a2 a3 ak : Option Addr) (n1 c1 m2 c2 n3 c3 nk ck g0 g off n lc j g9 : Nat) (v33 v34 v35 v36 v4' v5' : Value) (B : Bool) (d : Nat → Bool) (x : Act) (wx : World) : Prop where
  | mk (u27 u28 u29 u30 u31 u32 : Value) (hx : x = { tmps := #[.agg #[.int .i64 k, .slice a1 n1 c1, .slice a2 m2 c2, .slice a3 n3 c3], .slice ak nk ck, .pointer (some ⟨g0, 0, none⟩), undef, v4', v5', .slice (some ⟨g, off, none⟩) n lc, .bool true, undef, .pointer (some ⟨g9, 0, none⟩), .agg #[.int .i64 k, .slice a1 n1 c1, .slice a2 m2 c2, .slice a3 n3 c3], .bool true, .bool false, .slice ak nk ck, .int .i64 (nk : Int), .bool false, .tuple #[.slice (some ⟨g, off, none⟩) n lc, .bool true], .agg #[.int .i64 k, .slice a1 n1 c1, .slice a2 m2 c2, .slice a3 n3 c3], .tuple #[.slice (some ⟨g, off, none⟩) n lc, .bool true], .slice (some ⟨g, off, none⟩) n lc, .bool true, .slice (some ⟨g, off, none⟩) n lc, .int .i64 (n : Int), .int .i64 (j : Int), .bool true, .pointer (some ⟨g, off + j * 2, none⟩), .agg #[.string X, .string Y], u27, u28, u29, u30, u31, u32, v33, v34, v35, v36], defers := [] }) (hw : Below W0.heap.size W0 wx) (p0 : d 0 = true → u27 = .pointer (some ⟨g9, 0, none⟩)) (p1 : d 1 = true → u28 = .string X) (p2 : d 2 = true → u29 = .slice ak nk ck) (p4 : d 4 = true → u31 = .string (st kh)) (p5 : d 5 = true → u32 = .bool B) (z3 : d 3 = true → ∃ a n c, u30 = .slice a n c ∧ Pk.Sl kh (.slice a n c) wx) : GGR W0 kh X Y k a1 a2 a3 ak n1 c1 m2 c2 n3 c3 nk ck g0 g off n lc j g9 v33 v34 v35 v36 v4' v5' B d x wx
end Tr
end Go.Proofs.Ytdcbgldelfhohab
/- The closure of routePut's that finds a path; slices.IndexFunc of it. -/
namespace Go.Proofs.Ytdcbgldelfhohab
namespace Tr
open Nb Go.RowKit

end Tr
end Go.Proofs.Ytdcbgldelfhohab
/- slices.Clone of routes. -/
namespace Go.Proofs.Ytdcbgldelfhohab
namespace Tr
open Nb Go.RowKit

end Tr
end Go.Proofs.Ytdcbgldelfhohab
