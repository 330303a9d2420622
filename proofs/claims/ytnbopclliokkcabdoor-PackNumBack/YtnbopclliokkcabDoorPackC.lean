/- pack's writer: what it holds. -/
import Derived.Test.YtnbopclliokkcabDoorPackB
import Derived.Deep.AppendLies
import Derived.Deep.MidRow
import Derived.Test.YtnbopclliokkcabDoorPackA
import Derived.Defers
import Derived.Recover
import Derived.Laws.Pointers
namespace Go.Proofs.YtnbopclliokkcabDoor
namespace Pk
open Go.RowKit Go.Shelf
/-- The writer at block g has written bs: its bytes are a row of its own, at v. -/
structure Wt (g : Nat) (bs : List UInt8) (v : Value) (w : World) : Prop where
  hi : g < w.heap.size
  f : w.frozen? ⟨g, 0, none⟩ = false
  c : w.cell? ⟨g, 0, none⟩ = some v
  o : w.ownsRow (g + 1) 5 1 v bs.length (bcs bs)
/-- What a writer's method leaves: but the writer and its row all is as it was; its row is the old one or a new one. -/
structure Fw (g : Nat) (v v' : Value) (w W : World) : Prop where
  os : W.os = w.os
  tape : W.tape = w.tape
  output : W.output = w.output
  size : w.heap.size ≤ W.heap.size
  block : ∀ j, j < w.heap.size → j ≠ g → some j ≠ v.ownBlock → W.heap[j]? = w.heap[j]?
  own : v'.ownBlock = v.ownBlock ∨ ∀ k, v'.ownBlock = some k → w.heap.size ≤ k
theorem Fw_refl (g : Nat) (v : Value) (w : World) : Fw g v v w w := ⟨rfl, rfl, rfl, Nat.le_refl _, fun _ _ _ _ => rfl, .inl rfl⟩
theorem Fw_trans {g : Nat} {v v' v'' : Value} {a b c : World} (h : Fw g v v' a b) (k : Fw g v' v'' b c) : Fw g v v'' a c := by
  refine ⟨k.os.trans h.os, k.tape.trans h.tape, k.output.trans h.output, Nat.le_trans h.size k.size, fun j hj hg hv => ?_, ?_⟩
  · refine (k.block j (Nat.lt_of_lt_of_le hj h.size) hg (fun e => ?_)).trans (h.block j hj hg hv)
    rcases h.own with h1 | h1
    · rw [h1] at e; exact hv e
    · have := h1 j e.symm; omega
  · rcases k.own with h2 | h2
    · rcases h.own with h1 | h1
      · exact .inl (h2.trans h1)
      · exact .inr (fun x e => h1 x (by rw [← h2]; exact e))
    · exact .inr (fun x e => Nat.le_trans h.size (h2 x e))
theorem app_one {B : Nat} {bs : List UInt8} {v : Value} {w : World} (c : UInt8) (h : w.ownsRow B 5 1 v bs.length (bcs bs)) (hB : B ≤ w.heap.size) (hlen : bs.length + 1 ≤ 4398046511104) :
    ∃ G cap w', (Builtin.append_ #[22, 22] 22 #[v, .slice (some ⟨w.heap.size, 0, none⟩) 1 1]).run Tryd.prog (w.alloc (.cells #[.int .u8 (c.toNat : Int)] 5)) = .ok (.slice (some ⟨G, 0, none⟩) (bs.length + 1) cap) w' ∧ w'.ownsRow B 5 1 (.slice (some ⟨G, 0, none⟩) (bs.length + 1) cap) (bs ++ [c]).length (bcs (bs ++ [c])) ∧ (w.alloc (.cells #[.int .u8 (c.toNat : Int)] 5)).grownBy w' v.ownBlock ∧ (v.ownBlock = some G ∨ (w.alloc (.cells #[.int .u8 (c.toNat : Int)] 5)).heap.size ≤ G) := by
  obtain ⟨i0, hi0, hz0, hz1, hz2⟩ := info_parts Tryd.infoU8'
  have hnew := heap_alloc_new w (.cells #[.int .u8 (c.toNat : Int)] 5)
  have hsz : (w.alloc (.cells #[.int .u8 (c.toNat : Int)] 5)).heap.size = w.heap.size + 1 := by simp
  obtain ⟨G, cap, w', hr, h7, hgr, hG, _⟩ := run_append_lies (P := Tryd.prog) (w.alloc (.cells #[.int .u8 (c.toNat : Int)] 5)) 22 22 B 5 i0 (.int .u8 0) 1 1 Tryd.underlying22 hi0 hz0 hz1 hz2 rfl (by decide) v bs.length (bcs bs) (h.alloc _) ⟨w.heap.size, 0, none⟩ 1 1 [.int .u8 (c.toNat : Int)] rfl
    (fun j u hj => by
      have ea : (⟨w.heap.size, 0, none⟩ : Addr).add j = ⟨w.heap.size, j, none⟩ := by unfold Addr.add; split <;> simp_all
      rw [ea]
      simp only [World.cell?, hnew]
      simpa using hj) (fun u hu => by
        simp only [List.mem_cons, List.not_mem_nil, or_false] at hu
        subst hu; rfl) (by decide) (by unfold maxLen; omega) (by omega) (by omega) _ rfl
  refine ⟨G, cap, w', hr, ?_, hgr, hG.imp id (fun e => Nat.le_of_eq e.symm)⟩
  rw [List.length_append, bcs_app]
  exact h7
/-- While lay goes on. -/
def Lw (w : World) (g : Nat) (v : Value) (h2 : Nat) (bs : List UInt8) (W : World) : Prop :=
  ∃ v', Wt g bs v' W ∧ W.cell? ⟨h2, 0, none⟩ = some (.pointer (some ⟨g, 0, none⟩)) ∧ w.heap.size + 2 ≤ W.heap.size ∧ Fw g v v' w W ∧ (∀ k, v'.ownBlock = some k → k < w.heap.size ∨ w.heap.size + 2 ≤ k)
theorem row_cells {B e z n : Nat} {v : Value} {xs : List Value} {W : World} {k : Nat} (h : W.ownsRow B e z v n xs) (hk : v.ownBlock = some k) : ∃ o, W.heap[k]? = some o ∧ o.isCells = true := by
  rcases h.2 with ⟨h3, _⟩ | ⟨g, cap, cur, h3, h5⟩
  · subst h3; cases hk
  · subst h3
    cases hk
    exact ⟨_, h5.2.1, rfl⟩
theorem Lw_own (w : World) (g : Nat) (v : Value) (h2 B : Nat) (hB : w.heap.size ≤ B) {β : Type} (f : β → List UInt8) : OwnFrom B (fun s W => Lw w g v h2 (f s) W) := by
  rintro s W W' row ⟨v', hw, hc, hh, hf, hx⟩ hg hr
  have hr' : ∀ r, row = some r → ∃ o : Obj, W.heap[r]? = some o ∧ o.isCells = false := fun r e => (hr r e).2
  refine ⟨v', ⟨Nat.lt_of_lt_of_le hw.hi hg.size, (frozen_kept hw.c hg hr').trans hw.f, cell_kept hw.c hg hr', hw.o.kept hg ?_⟩, cell_kept hc hg hr', Nat.le_trans hh hg.size, ⟨hg.os.trans hf.os, hg.tape.trans hf.tape, hg.output.trans hf.output, Nat.le_trans hf.size hg.size, fun j hj h1 h3 => (hg.block j (Nat.lt_of_lt_of_le hj hf.size) (fun e => ?_)).trans (hf.block j hj h1 h3), hf.own⟩, hx⟩
  · cases hv : v'.ownBlock with
    | none => exact .inl rfl
    | some k =>
      right
      intro e
      obtain ⟨o, h4, h5⟩ := row_cells hw.o hv
      obtain ⟨o', h6, h7⟩ := hr' k e.symm
      rw [h4] at h6
      injection h6 with h6
      subst h6
      rw [h5] at h7; cases h7
  · have := (hr j e.symm).1
    omega
/-- One byte more: what a round of lay comes to. -/
theorem Lw_step {w W WC : World} {g b G pq n1 p1 : Nat} {v : Value} {a1 : Option Addr} {bs : List UInt8} (c : UInt8) (hw1 : Wt g bs (.slice a1 n1 p1) W) (hc1 : W.cell? ⟨w.heap.size, 0, none⟩ = some (.pointer (some ⟨g, 0, none⟩))) (hsz : w.heap.size + 2 ≤ W.heap.size) (hgw : g < w.heap.size) (hbw : b < w.heap.size) (hbg : b ≠ g) (hbv : some b ≠ v.ownBlock) (hf1 : Fw g v (.slice a1 n1 p1) w W) (hx1 : ∀ k, (Value.slice a1 n1 p1).ownBlock = some k → k < w.heap.size ∨ w.heap.size + 2 ≤ k)
    (own2 : WC.ownsRow (g + 1) 5 1 (.slice (some ⟨G, 0, none⟩) (bs.length + 1) pq) (bs ++ [c]).length (bcs (bs ++ [c]))) (hgr : (W.drew.alloc (.cells #[.int .u8 (c.toNat : Int)] 5)).grownBy WC (Value.slice a1 n1 p1).ownBlock) (hG : (Value.slice a1 n1 p1).ownBlock = some G ∨ (W.drew.alloc (.cells #[.int .u8 (c.toNat : Int)] 5)).heap.size ≤ G) :
    (W.drew.alloc (.cells #[.int .u8 (c.toNat : Int)] 5)).cell? ⟨w.heap.size, 0, none⟩ = some (.pointer (some ⟨g, 0, none⟩)) ∧ WC.cell? ⟨w.heap.size, 0, none⟩ = some (.pointer (some ⟨g, 0, none⟩)) ∧ (W.drew.alloc (.cells #[.int .u8 (c.toNat : Int)] 5)).cell? ⟨g, 0, none⟩ = some (.slice a1 n1 p1) ∧ WC.cell? ⟨g, 0, none⟩ = some (.slice a1 n1 p1) ∧ WC.frozen? ⟨g, 0, none⟩ = false ∧
    KeepsOthers W (WC.setCell ⟨g, 0, none⟩ (.slice (some ⟨G, 0, none⟩) (bs.length + 1) pq)) ∧ Kp2 (w.heap.size + 1) b W (WC.setCell ⟨g, 0, none⟩ (.slice (some ⟨G, 0, none⟩) (bs.length + 1) pq)) ∧ Lw w g v w.heap.size (bs ++ [c]) (WC.setCell ⟨g, 0, none⟩ (.slice (some ⟨G, 0, none⟩) (bs.length + 1) pq)) := by
  have hlo := hw1.o.lt
  have bB : Below W.heap.size W (W.drew.alloc (.cells #[.int .u8 (c.toNat : Int)] 5)) := ((Below.refl _ _).drew).alloc (Nat.le_refl _) _
  have kO : KeepsOthers W (W.drew.alloc (.cells #[.int .u8 (c.toNat : Int)] 5)) := (KeepsOthers.drew W).trans (KeepsOthers.alloc _ _)
  have hrc : ∀ (j : Nat) (o : Obj), (Value.slice a1 n1 p1).ownBlock = some j → (W.drew.alloc (.cells #[.int .u8 (c.toNat : Int)] 5)).heap[j]? = some o → o.isCells = true := fun j o hj ho => by
    obtain ⟨o', h4, h5⟩ := row_cells (ownb hw1.o bB) hj
    rw [h4] at ho
    injection ho with ho
    subst ho
    exact h5
  have hsB := bB.size
  generalize W.drew.alloc (.cells #[.int .u8 (c.toNat : Int)] 5) = WB at *
  have gs := gb_set WC g 0 (.slice (some ⟨G, 0, none⟩) (bs.length + 1) pq)
  have hgi := hw1.hi
  have ng : some g ≠ (Value.slice a1 n1 p1).ownBlock := fun e => by have := (hlo g e.symm).1; omega
  have nh : some w.heap.size ≠ (Value.slice a1 n1 p1).ownBlock := fun e => by have := hx1 _ e.symm; omega
  have nB : some (w.heap.size + 1) ≠ (Value.slice a1 n1 p1).ownBlock := fun e => by have := hx1 _ e.symm; omega
  have nb : some b ≠ (Value.slice a1 n1 p1).ownBlock := fun e => by
    rcases hf1.own with h | h
    · exact hbv (e.trans h)
    · have := h b e.symm; omega
  have cBg : WB.cell? ⟨g, 0, none⟩ = some (.slice a1 n1 p1) := (bB.cell (p := ⟨g, 0, none⟩) hgi).trans hw1.c
  have cBh : WB.cell? ⟨w.heap.size, 0, none⟩ = some (.pointer (some ⟨g, 0, none⟩)) := (bB.cell (p := ⟨w.heap.size, 0, none⟩) (by show w.heap.size < _; omega)).trans hc1
  have kp : ∀ j, j < W.heap.size → some j ≠ (Value.slice a1 n1 p1).ownBlock → ∀ o, WC.cell? ⟨j, o, none⟩ = W.cell? ⟨j, o, none⟩ := fun j hj hn o => (World.cell?_of_block (a := ⟨j, o, none⟩) (hgr.block j (by omega) hn)).trans (bB.cell (p := ⟨j, o, none⟩) hj)
  have cCg : WC.cell? ⟨g, 0, none⟩ = some (.slice a1 n1 p1) := (kp g hgi ng 0).trans hw1.c
  have cCh : WC.cell? ⟨w.heap.size, 0, none⟩ = some (.pointer (some ⟨g, 0, none⟩)) := (kp _ (by omega) nh 0).trans hc1
  have fCg : WC.frozen? ⟨g, 0, none⟩ = false := (World.frozen?_of_block (a := ⟨g, 0, none⟩) (hgr.block g (by omega) ng)).trans ((bB.frozen (p := ⟨g, 0, none⟩) hgi).trans hw1.f)
  have hGg : G ≠ g := by
    rcases hG with h | h
    · have := (hlo G h).1; omega
    · omega
  have sD : ∀ j, j ≠ g → ∀ o, (WC.setCell ⟨g, 0, none⟩ (.slice (some ⟨G, 0, none⟩) (bs.length + 1) pq)).cell? ⟨j, o, none⟩ = WC.cell? ⟨j, o, none⟩ := fun j hj o => World.cell?_setCell_other WC _ _ _ (fun e => hj (by injection e with e1 _ _; exact e1.symm))
  have szD : (WC.setCell ⟨g, 0, none⟩ (.slice (some ⟨G, 0, none⟩) (bs.length + 1) pq)).heap.size = WC.heap.size := by simp [World.setCell]
  have hsC := hgr.size
  refine ⟨cBh, cCh, cBg, cCg, fCg, (kO.trans (KeepsOthers.of_grownBy hgr hrc)).trans (KeepsOthers.setCell _ _ _), fun o => ⟨(sD _ (by omega) o).trans (kp _ (by omega) nB o), (sD b hbg o).trans (kp b (by omega) nb o)⟩, ⟨_, ⟨by rw [szD]; omega, by rw [World.frozen?_setCell]; exact fCg, World.cell?_setCell_same WC ⟨g, 0, none⟩ _ cCg, own2.kept gs (.inr (fun e => by
    have e2 : (some G : Option Nat) = some g := e
    injection e2 with e2
    exact hGg e2))⟩, (sD _ (by omega) 0).trans cCh, by rw [szD]; omega, Fw_trans hf1 ⟨gs.os.trans (hgr.os.trans bB.os), gs.tape.trans (hgr.tape.trans bB.tape), gs.output.trans (hgr.output.trans bB.output), by rw [szD]; omega, fun j hj h1 h2 => (gs.block j (by omega) (fun e => h1 (by injection e))).trans ((hgr.block j (by omega) h2).trans (bB.block j hj)), ?_⟩, fun k hk => ?_⟩⟩
  · rcases hG with h | h
    · exact .inl h.symm
    · right
      intro k hk
      have e2 : (some G : Option Nat) = some k := hk
      injection e2 with e2
      omega
  · have e2 : (some G : Option Nat) = some k := hk
    injection e2 with e2
    subst e2
    rcases hG with h | h
    · exact hx1 G h
    · right; omega
end Pk
end Go.Proofs.YtnbopclliokkcabDoor
/- pack's writer: lay. -/
namespace Go.Proofs.YtnbopclliokkcabDoor
namespace Pk
open Go.RowKit Go.Shelf
attribute [local go_sem] Oper.semAt_some
set_option maxRecDepth 100000 in
set_option maxHeartbeats 4000000 in
theorem lay_any (g : Nat) (bs zs : List UInt8) (v : Value) (ao : Option Addr) (cap b : Nat) (w : World) (hw : Wt g bs v w) (hz : zs.length ≤ 1048576) (hlen : bs.length + zs.length ≤ 4398046511103) (vw : Sp.Vw zs ao w) (hb : 0 < zs.length → ∃ off, ao = some ⟨b, off, none⟩) (hbw : b < w.heap.size) (hbg : b ≠ g) (hbv : some b ≠ v.ownBlock) :
    Calls Tryd.prog 32 #[.pointer (some ⟨g, 0, none⟩), .slice ao zs.length cap] w fun e w' => e = .returned (.tuple #[]) ∧ ∃ v', Wt g (bs ++ zs.reverse) v' w' ∧ Fw g v v' w w' := by
  refine (callsIn_wide (n := 5)).1 ?_
  refine callsIn_of_wp_marks Tryd.func32 rfl trivial ?_ rfl
  simp only [Tryd.ntmps32, List.size_toArray, List.length_cons, List.length_nil, Nat.reduceAdd, Nat.reduceSub, Array.replicate_succ, Array.replicate_zero, List.push_toArray, List.append_toArray, List.nil_append, List.cons_append]
  gi_wp2_with (refine ⟨trivial, ?_⟩; gi_at_call 40; refine (bwd_in _ _ trivial rfl _ _ _ _).mono ?_; rintro e w' ⟨rfl, rfl⟩)
  have b1 : Below w.heap.size w (w.alloc (.cells #[.pointer (some ⟨g, 0, none⟩)] 54)) := (Below.refl _ _).alloc (Nat.le_refl _) _
  have b2 : Below w.heap.size w ((w.alloc (.cells #[.pointer (some ⟨g, 0, none⟩)] 54)).alloc (.cells #[.slice ao zs.length cap] 22)) := b1.alloc b1.size _
  have k1 : ((w.alloc (.cells #[.pointer (some ⟨g, 0, none⟩)] 54)).alloc (.cells #[.slice ao zs.length cap] 22)).cell? ⟨w.heap.size, 0, none⟩ = some (.pointer (some ⟨g, 0, none⟩)) := by simp [go_sem]
  have k2 : ((w.alloc (.cells #[.pointer (some ⟨g, 0, none⟩)] 54)).alloc (.cells #[.slice ao zs.length cap] 22)).cell? ⟨w.heap.size + 1, 0, none⟩ = some (.slice ao zs.length cap) := by simp [go_sem]
  have k3 : ((w.alloc (.cells #[.pointer (some ⟨g, 0, none⟩)] 54)).alloc (.cells #[.slice ao zs.length cap] 22)).heap.size = w.heap.size + 2 := by simp
  generalize (w.alloc (.cells #[.pointer (some ⟨g, 0, none⟩)] 54)).alloc (.cells #[.slice ao zs.length cap] 22) = W0 at *
  have g0 : Wt g bs v W0 := ⟨Nat.lt_of_lt_of_le hw.hi b2.size, (b2.frozen (p := ⟨g, 0, none⟩) hw.hi).trans hw.f, (b2.cell (p := ⟨g, 0, none⟩) hw.hi).trans hw.c, ownb hw.o b2⟩
  have L0 : Lw w g v w.heap.size (bs ++ ([] : List (Int × UInt8)).map (·.2)) W0 := by
    rw [List.map_nil, List.append_nil]
    exact ⟨v, g0, k1, by omega, ⟨b2.os, b2.tape, b2.output, b2.size, fun j hj _ _ => b2.block j hj, .inl rfl⟩, fun k hk => .inl (hw.o.lt k hk).2⟩
  refine wpIn_rangeFunc_ownF (F := Fence.wide) rfl (by decide) (gf := 45) (lb := #[.pointer (some ⟨w.heap.size + 1, 0, none⟩)]) rfl trivial (enters_of Tryd.func45 (by kernel_rfl) rfl)
    (bwd_stops Fence.wide 4 trivial rfl (by decide) (w.heap.size + 1) b cap ao zs (by omega) W0 (by omega) k2 (Sp.Vw_below vw b2) hb) Kp2_t ?hKb (Below.refl _ _) (fun _ => rfl)
    (fun pre W => Lw w g v w.heap.size (bs ++ pre.map (·.2)) W) (fun _ _ _ => False) (Lw_own w g v w.heap.size W0.heap.size (by omega) _) (fun _ _ _ _ _ h _ _ => h) L0
    (fun x => { tmps := #[.pointer (some ⟨g, 0, none⟩), .slice ao zs.length cap, .pointer (some ⟨w.heap.size, 0, none⟩), undef, undef, .int .u8 (x.2.toNat : Int), .slice ao zs.length cap, .func (.func 45) #[] #[.pointer (some ⟨w.heap.size + 1, 0, none⟩)], .int .i64 x.1, .int .u8 (x.2.toNat : Int), undef, undef, undef, undef, undef, undef, undef, undef, undef, undef], defers := [] }) ?assign ?body ?done ?stop
  case hKb =>
    intro W l o o' hl _ _ _ i
    have e1 : (W.putObj l o').heap[w.heap.size + 1]? = W.heap[w.heap.size + 1]? := World.putObj_heap_other (fun e => by omega)
    have e2 : (W.putObj l o').heap[b]? = W.heap[b]? := World.putObj_heap_other (fun e => by omega)
    exact ⟨World.cell?_of_block (a := ⟨w.heap.size + 1, i, none⟩) e1, World.cell?_of_block (a := ⟨b, i, none⟩) e2⟩
  case assign =>
    intro l x W K hK
    gi_wp2
    exact hK
  case body =>
    rintro l pre x W hI hN
    obtain ⟨v1, hw1, hc1, hh1, hf1, hx1⟩ := hI
    obtain ⟨a1, n1, p1, rfl⟩ : ∃ a1 n1 p1, v1 = .slice a1 n1 p1 := by
      rcases hw1.o.2 with ⟨h3, _⟩ | ⟨g3, cap3, cur, h3, _⟩
      · exact ⟨_, _, _, h3⟩
      · exact ⟨_, _, _, h3⟩
    obtain ⟨G, pq, WC, hap, own2, hgr, hG⟩ := app_one (w := W.drew) x.2 hw1.o.drew (by have := hw1.hi; show g + 1 ≤ W.heap.size; omega) (by rw [List.length_append, List.length_map]; omega)
    obtain ⟨kB, kC, mB, mC, fC, kO, kP, hL⟩ := Lw_step (w := w) (b := b) (v := v) x.2 hw1 hc1 hh1 hw.hi hbw hbg hbv hf1 hx1 own2 hgr hG
    have kA : W.drew.cell? ⟨w.heap.size, 0, none⟩ = some (.pointer (some ⟨g, 0, none⟩)) := hc1
    have mA : W.drew.cell? ⟨g, 0, none⟩ = some (.slice a1 n1 p1) := hw1.c
    have HL : Lw w g v w.heap.size (bs ++ (pre ++ [x]).map (·.2)) (WC.setCell ⟨g, 0, none⟩ (.slice (some ⟨G, 0, none⟩) ((bs ++ pre.map (·.2)).length + 1) pq)) := by
      rw [List.map_append, ← List.append_assoc]
      exact hL
    clear hL own2 hgr hG hf1 hx1
    obtain ⟨nn, hnn⟩ : ∃ nn, nn = (bs ++ pre.map (·.2)).length + 1 := ⟨_, rfl⟩
    rw [← hnn] at hap kO kP HL
    obtain ⟨WD, hWD⟩ : ∃ WD, WD = WC.setCell ⟨g, 0, none⟩ (.slice (some ⟨G, 0, none⟩) nn pq) := ⟨_, rfl⟩
    rw [← hWD] at kO kP HL
    obtain ⟨cz, hcz⟩ : ∃ cz : Int, cz = (x.2.toNat : Int) := ⟨_, rfl⟩
    rw [← hcz] at hap kB mB ⊢
    obtain ⟨WA, hWA⟩ : ∃ WA, WA = W.drew := ⟨_, rfl⟩
    obtain ⟨GB, hGB⟩ : ∃ GB, GB = WA.heap.size := ⟨_, rfl⟩
    rw [← hWA] at hap kB mB kA mA
    rw [← hGB] at hap
    obtain ⟨WB, hWB⟩ : ∃ WB, WB = WA.alloc (.cells #[.int .u8 cz] 5) := ⟨_, rfl⟩
    rw [← hWB] at hap kB mB
    have HWA : Hid (WA = W.drew) := hWA
    have HGB : Hid (GB = WA.heap.size) := hGB
    have HWB : Hid (WB = WA.alloc (.cells #[.int .u8 cz] 5)) := hWB
    have HWD : Hid (WD = WC.setCell ⟨g, 0, none⟩ (.slice (some ⟨G, 0, none⟩) nn pq)) := hWD
    clear hcz hnn hWA hGB hWB hWD
    refine wpIn_block ?_
    refine RI.wpIn_region_inv (LB w.heap.size g GB cz a1 (some ⟨G, 0, none⟩) n1 p1 nn pq (.pointer (some ⟨g, 0, none⟩)) (.slice ao zs.length cap) undef undef (.slice ao zs.length cap) (.func (.func 45) #[] #[.pointer (some ⟨w.heap.size + 1, 0, none⟩)]) (.int .i64 x.1) (.int .u8 cz) WA WB WC WD) (by kernel_rfl) (by kernel_rfl) ?_ ?_ ?_
    · exact ⟨undef, undef, undef, undef, undef, undef, undef, undef, undef, undef, rfl, .inl ⟨HWA.out.symm, rfl, rfl, rfl⟩, nofun, nofun, nofun, nofun, nofun, nofun, nofun, nofun, nofun, nofun⟩
    · intro d x wx i hI hi hm
      obtain ⟨u10, u11, u12, u13, u14, u15, u16, u17, u18, u19, rfl, hw, p0, p1, p2, p3, p4, p5, p6, p7, p8, p9⟩ := hI
      have hi' : i = 0 ∨ i = 1 ∨ i = 2 ∨ i = 3 ∨ i = 4 ∨ i = 5 ∨ i = 6 ∨ i = 7 ∨ i = 8 ∨ i = 9 ∨ i = 10 := by simp at hi; omega
      clear hi
      rcases hi' with rfl | rfl | rfl | rfl | rfl | rfl | rfl | rfl | rfl | rfl | rfl
      · have hi0 := hm.1
        have hr := WS_rd hw hi0 (by decide) kA kB kC
        clear hm
        refine RI.wpOpIn_plain rfl rfl (RI.wpIn_round nofun ?_)
        go_simp
        exact ⟨_, u11, u12, u13, u14, u15, u16, u17, u18, u19, rfl, WS_keep 0 (by decide) (by decide) (by decide) hw, fun _ => rfl, RI.keep (by decide) p1, RI.keep (by decide) p2, RI.keep (by decide) p3, RI.keep (by decide) p4, RI.keep (by decide) p5, RI.keep (by decide) p6, RI.keep (by decide) p7, RI.keep (by decide) p8, RI.keep (by decide) p9⟩
      · have hi0 := hm.1
        have hr := WS_rd hw hi0 (by decide) kA kB kC
        clear hm
        refine RI.wpOpIn_plain rfl rfl (RI.wpIn_round nofun ?_)
        go_simp
        exact ⟨u10, _, u12, u13, u14, u15, u16, u17, u18, u19, rfl, WS_keep 1 (by decide) (by decide) (by decide) hw, RI.keep (by decide) p0, fun _ => rfl, RI.keep (by decide) p2, RI.keep (by decide) p3, RI.keep (by decide) p4, RI.keep (by decide) p5, RI.keep (by decide) p6, RI.keep (by decide) p7, RI.keep (by decide) p8, RI.keep (by decide) p9⟩
      · have hd := hm.2 _ rfl
        simp [Region.binds] at hd
        have hi0 := hm.1
        obtain rfl := p1 (by simp [hd])
        clear hm
        refine RI.wpOpIn_plain rfl rfl (RI.wpIn_round nofun ?_)
        go_simp
        exact ⟨u10, _, _, u13, u14, u15, u16, u17, u18, u19, rfl, WS_keep 2 (by decide) (by decide) (by decide) hw, RI.keep (by decide) p0, RI.keep (by decide) p1, fun _ => rfl, RI.keep (by decide) p3, RI.keep (by decide) p4, RI.keep (by decide) p5, RI.keep (by decide) p6, RI.keep (by decide) p7, RI.keep (by decide) p8, RI.keep (by decide) p9⟩
      · have hd := hm.2 _ rfl
        simp [Region.binds] at hd
        have hi0 := hm.1
        obtain rfl := p2 (by simp [hd])
        clear hm
        refine RI.wpOpIn_plain rfl rfl (RI.wpIn_round nofun ?_)
        go_simp
        exact ⟨u10, u11, _, _, u14, u15, u16, u17, u18, u19, rfl, WS_keep 3 (by decide) (by decide) (by decide) hw, RI.keep (by decide) p0, RI.keep (by decide) p1, RI.keep (by decide) p2, fun _ => rfl, RI.keep (by decide) p4, RI.keep (by decide) p5, RI.keep (by decide) p6, RI.keep (by decide) p7, RI.keep (by decide) p8, RI.keep (by decide) p9⟩
      · have hd := hm.2 _ rfl
        simp [Region.binds] at hd
        have hi0 := hm.1
        obtain rfl := p3 (by simp [hd])
        have hr := WS_rd hw hi0 (by decide) mA mB mC
        clear hm
        refine RI.wpOpIn_plain rfl rfl (RI.wpIn_round nofun ?_)
        go_simp
        exact ⟨u10, u11, u12, _, _, u15, u16, u17, u18, u19, rfl, WS_keep 4 (by decide) (by decide) (by decide) hw, RI.keep (by decide) p0, RI.keep (by decide) p1, RI.keep (by decide) p2, RI.keep (by decide) p3, fun _ => rfl, RI.keep (by decide) p5, RI.keep (by decide) p6, RI.keep (by decide) p7, RI.keep (by decide) p8, RI.keep (by decide) p9⟩
      · have hi0 := hm.1
        clear hm
        refine RI.wpOpIn_plain rfl rfl (RI.wpIn_round nofun ?_)
        go_simp
        exact ⟨u10, u11, u12, u13, u14, _, u16, u17, u18, u19, rfl, WS_keep 5 (by decide) (by decide) (by decide) hw, RI.keep (by decide) p0, RI.keep (by decide) p1, RI.keep (by decide) p2, RI.keep (by decide) p3, RI.keep (by decide) p4, fun _ => rfl, RI.keep (by decide) p6, RI.keep (by decide) p7, RI.keep (by decide) p8, RI.keep (by decide) p9⟩
      · have hd := hm.2 _ rfl
        simp [Region.binds] at hd
        have hi0 := hm.1
        obtain ⟨ew, h7, h10⟩ := WS_A hw hi0
        subst ew
        obtain rfl := p5 (by simp [hd])
        clear hm
        refine RI.wpOpIn_plain rfl rfl (RI.wpIn_round nofun ?_)
        go_simp
        rw [← HGB.out, ← HWB.out]
        exact ⟨u10, u11, u12, u13, u14, _, _, u17, u18, u19, rfl, (.inr (.inl ⟨rfl, RI.don_same _ _, by rw [RI.don_other _ _ _ (by decide)]; exact h7, by rw [RI.don_other _ _ _ (by decide)]; exact h10⟩)), RI.keep (by decide) p0, RI.keep (by decide) p1, RI.keep (by decide) p2, RI.keep (by decide) p3, RI.keep (by decide) p4, RI.keep (by decide) p5, fun _ => rfl, RI.keep (by decide) p7, RI.keep (by decide) p8, RI.keep (by decide) p9⟩
      · have hd := hm.2 _ rfl
        simp [Region.binds] at hd
        have hi0 := hm.1
        obtain ⟨ew, h10⟩ := WS_B hw hi0 (by simp [hd])
        subst ew
        obtain rfl := p4 (by simp [hd])
        obtain rfl := p6 (by simp [hd])
        clear hm
        refine RI.wpOpIn_plain rfl rfl (RI.wpIn_round nofun ?_)
        refine upw_app rfl rfl rfl hap ?_
        exact ⟨u10, u11, u12, u13, _, u15, _, _, u18, u19, rfl, (.inr (.inr (.inl ⟨rfl, by rw [RI.don_other _ _ _ (by decide)]; simp [hd], RI.don_same _ _, by rw [RI.don_other _ _ _ (by decide)]; exact h10⟩))), RI.keep (by decide) p0, RI.keep (by decide) p1, RI.keep (by decide) p2, RI.keep (by decide) p3, RI.keep (by decide) p4, RI.keep (by decide) p5, RI.keep (by decide) p6, fun _ => rfl, RI.keep (by decide) p8, RI.keep (by decide) p9⟩
      · have hd := hm.2 _ rfl
        simp [Region.binds] at hd
        have hi0 := hm.1
        obtain rfl := p0 (by simp [hd])
        obtain rfl := p1 (by simp [hd])
        obtain rfl := p2 (by simp [hd])
        obtain rfl := p3 (by simp [hd])
        obtain rfl := p4 (by simp [hd])
        obtain rfl := p5 (by simp [hd])
        obtain rfl := p6 (by simp [hd])
        obtain rfl := p7 (by simp [hd])
        clear hm
        refine RI.wpOpIn_plain rfl rfl (RI.wpIn_round nofun ?_)
        go_simp
        exact ⟨_, _, _, _, _, _, _, _, _, u19, rfl, WS_keep 8 (by decide) (by decide) (by decide) hw, RI.keep (by decide) p0, RI.keep (by decide) p1, RI.keep (by decide) p2, RI.keep (by decide) p3, RI.keep (by decide) p4, RI.keep (by decide) p5, RI.keep (by decide) p6, RI.keep (by decide) p7, fun _ => rfl, RI.keep (by decide) p9⟩
      · have hd := hm.2 _ rfl
        simp [Region.binds] at hd
        have hi0 := hm.1
        obtain rfl := p0 (by simp [hd])
        obtain rfl := p1 (by simp [hd])
        obtain rfl := p2 (by simp [hd])
        obtain rfl := p3 (by simp [hd])
        obtain rfl := p4 (by simp [hd])
        obtain rfl := p5 (by simp [hd])
        obtain rfl := p6 (by simp [hd])
        obtain rfl := p7 (by simp [hd])
        obtain rfl := p8 (by simp [hd])
        clear hm
        refine RI.wpOpIn_plain rfl rfl (RI.wpIn_round nofun ?_)
        go_simp
        exact ⟨_, _, _, _, _, _, _, _, _, _, rfl, WS_keep 9 (by decide) (by decide) (by decide) hw, RI.keep (by decide) p0, RI.keep (by decide) p1, RI.keep (by decide) p2, RI.keep (by decide) p3, RI.keep (by decide) p4, RI.keep (by decide) p5, RI.keep (by decide) p6, RI.keep (by decide) p7, RI.keep (by decide) p8, fun _ => rfl⟩
      · have hd := hm.2 _ rfl
        simp [Region.binds] at hd
        have hi0 := hm.1
        obtain ew := WS_C hw hi0 (by simp [hd])
        subst ew
        obtain rfl := p0 (by simp [hd])
        obtain rfl := p1 (by simp [hd])
        obtain rfl := p2 (by simp [hd])
        obtain rfl := p3 (by simp [hd])
        obtain rfl := p4 (by simp [hd])
        obtain rfl := p5 (by simp [hd])
        obtain rfl := p6 (by simp [hd])
        obtain rfl := p7 (by simp [hd])
        obtain rfl := p9 (by simp [hd])
        clear hm
        refine RI.wpOpIn_plain rfl rfl (RI.wpIn_round nofun ?_)
        go_simp
        rw [← HWD.out]
        exact ⟨_, _, _, _, _, _, _, _, u18, _, rfl, (.inr (.inr (.inr ⟨rfl, RI.don_same _ _, fun j hj => by
          rw [RI.don_other _ _ _ (by omega)]
          have : j = 0 ∨ j = 1 ∨ j = 2 ∨ j = 3 ∨ j = 4 ∨ j = 5 ∨ j = 6 ∨ j = 7 := by omega
          rcases this with rfl | rfl | rfl | rfl | rfl | rfl | rfl | rfl <;> simp [hd]⟩))), RI.keep (by decide) p0, RI.keep (by decide) p1, RI.keep (by decide) p2, RI.keep (by decide) p3, RI.keep (by decide) p4, RI.keep (by decide) p5, RI.keep (by decide) p6, RI.keep (by decide) p7, RI.keep (by decide) p8, RI.keep (by decide) p9⟩
    · intro d x wx hI hd
      obtain ⟨u10, u11, u12, u13, u14, u15, u16, u17, u18, u19, rfl, hw, p0, p1, p2, p3, p4, p5, p6, p7, p8, p9⟩ := hI
      obtain rfl := WS_D hw (hd 10 (by decide))
      exact ⟨kO, kP, HL⟩
  case done =>
    rintro D ys W hD hS hI hK
    have hI2 := (Lw_own w g v w.heap.size W0.heap.size (by omega) (fun pre : List (Int × UInt8) => bs ++ pre.map (·.2))).putObj (.deferred none) hI hD hK rfl
    rw [hS] at hI2
    obtain ⟨v', hw', _, _, hf', _⟩ := hI2
    gi_wp2
    refine ⟨by simp, .inl ⟨_, _, rfl, run_takeDeferred hK, ?_⟩⟩
    exact ⟨_, results_none rfl _ _ _, rfl, v', hw', hf'⟩
  case stop =>
    rintro D c pre W _ _ h _
    exact h.elim
end Pk
end Go.Proofs.YtnbopclliokkcabDoor
/- pack's reader: text of one byte. -/
namespace Go.Proofs.YtnbopclliokkcabDoor
namespace Pk
open Go.RowKit
set_option maxHeartbeats 400000 in
set_option maxRecDepth 100000 in
theorem text_one (g s n k : Nat) (b : List UInt8) (hs : s < 64) (hb : b.length ≤ 4194304) (hr : rsz s b = some (n, k)) (hn : n ≤ (b.drop k).length) (h1 : n = 1) (hx : Sp.bz (b.drop k) 0 < 128) (w : World) (h : Rd g b w) :
    Calls Tryd.prog 35 #[.pointer (some ⟨g, 0, none⟩), .int .u8 (s : Int)] w fun e w' => e = .panicked [{ v := FT, recovered := false }] ∧ w.grownBy w' (some g) := by
  have K : Hid (Calls Tryd.prog 42 #[.pointer (some ⟨g, 0, none⟩), .int .u8 (s : Int)] w fun e w' => e = .returned (.int .i64 (n : Int)) ∧ Rd g (b.drop k) w' ∧ w.grownBy w' (some g)) := size_ok g s n k b hs hb hr w h
  have K2 : Hid (∀ w : World, Rd g (b.drop k) w → Calls Tryd.prog 34 #[.pointer (some ⟨g, 0, none⟩), .int .i64 (n : Int)] w fun e w' => ∃ v1, e = .returned v1 ∧ Sx g ((b.drop k).take n) v1 w' ∧ Rd g ((b.drop k).drop n) w' ∧ w.grownBy w' (some g)) := fun w h => take_ok g _ n w h hn
  have KN : Hid (∀ w : World, Calls Tryd.prog 41 #[.bool false] w fun e w' => e = .panicked [{ v := FT, recovered := false }] ∧ w' = w) := need_no
  have LT : Hid (((b.drop k).take n).length = n) := by show _ = _; rw [List.length_take]; omega
  have D0 : Hid (decide (128 ≤ Sp.bz (b.drop k) 0) = false) := decide_eq_false (by omega)
  have H1 : Hid (n = 1) := h1
  clear hs hb hr h hn hx h1
  generalize hc : b.drop k = c at *
  clear hc
  generalize FT = X at *
  go_enter Tryd.func35, Tryd.ntmps35
  go_wp2_with fail
  refine K.out.mono (fun e w2 he => ?_)
  obtain ⟨rfl, hR, hg⟩ := he
  go_wp2_with fail
  refine (K2.out _ hR).mono (fun e w3 he => ?_)
  obtain ⟨v1, rfl, s1, r1, g1⟩ := he
  have G3 : Hid (w.grownBy w3 (some g)) := gb_trans hg g1
  have R3 : Hid (Rd g (c.drop n) w3) := r1
  have S3 : Hid (Sl (c.take n) v1 w3) := Sx_sl s1
  obtain ⟨ao, cap, rfl, q2, q3, q4⟩ := s1
  have SV := S3
  rw [LT.out] at q2 q4 SV ⊢
  clear K K2 hR hg g1 r1 S3
  obtain rfl := H1.out
  obtain ⟨h5, off, rfl, hne, hlt, hc⟩ := q4 (by decide)
  have c0 := hc 0 (by decide)
  rw [bz_take c 1 0 (by decide), Nat.add_zero] at c0
  have d0 := D0.out
  clear hc q4 hne D0
  generalize Sp.bz c 0 = x0 at c0 d0
  go_wp2_with fail
  refine (KN.out _).mono (fun e w4 he => ?_)
  obtain ⟨rfl, rfl⟩ := he
  exact ⟨rfl, rfl, G3.out⟩
set_option maxHeartbeats 400000 in
set_option maxRecDepth 100000 in
theorem text_high (g s n k : Nat) (b : List UInt8) (hs : s < 64) (hb : b.length ≤ 4194304) (hr : rsz s b = some (n, k)) (hn : n ≤ (b.drop k).length) (h1 : n = 1) (hx : ¬ Sp.bz (b.drop k) 0 < 128) (w : World) (h : Rd g b w) :
    Calls Tryd.prog 35 #[.pointer (some ⟨g, 0, none⟩), .int .u8 (s : Int)] w fun e w' => ∃ v', e = .returned v' ∧ Tx w.heap.size ((b.drop k).take n) v' w' ∧ Rd g ((b.drop k).drop n) w' ∧ w.grownBy w' (some g) := by
  have K : Hid (Calls Tryd.prog 42 #[.pointer (some ⟨g, 0, none⟩), .int .u8 (s : Int)] w fun e w' => e = .returned (.int .i64 (n : Int)) ∧ Rd g (b.drop k) w' ∧ w.grownBy w' (some g)) := size_ok g s n k b hs hb hr w h
  have K2 : Hid (∀ w : World, Rd g (b.drop k) w → Calls Tryd.prog 34 #[.pointer (some ⟨g, 0, none⟩), .int .i64 (n : Int)] w fun e w' => ∃ v1, e = .returned v1 ∧ Sx g ((b.drop k).take n) v1 w' ∧ Rd g ((b.drop k).drop n) w' ∧ w.grownBy w' (some g)) := fun w h => take_ok g _ n w h hn
  have KN : Hid (∀ w : World, Calls Tryd.prog 41 #[.bool true] w fun e w' => e = .returned (.tuple #[]) ∧ w' = w) := need_ok
  have LT : Hid (((b.drop k).take n).length = n) := by show _ = _; rw [List.length_take]; omega
  have KC : Hid (∀ (v : Value) (w : World), Sl ((b.drop k).take n) v w → Calls Tryd.prog 43 #[v] w fun e w' => ∃ v', e = .returned v' ∧ Tx w.heap.size ((b.drop k).take n) v' w' ∧ Below w.heap.size w w') := fun v w hv => clone_any hv (by rw [List.length_take, List.length_drop]; omega)
  have D0 : Hid (decide (128 ≤ Sp.bz (b.drop k) 0) = true) := decide_eq_true (by omega)
  have H1 : Hid (n = 1) := h1
  clear hs hb hr h hn hx h1
  generalize hc : b.drop k = c at *
  clear hc
  go_enter Tryd.func35, Tryd.ntmps35
  go_wp2_with fail
  refine K.out.mono (fun e w2 he => ?_)
  obtain ⟨rfl, hR, hg⟩ := he
  go_wp2_with fail
  refine (K2.out _ hR).mono (fun e w3 he => ?_)
  obtain ⟨v1, rfl, s1, r1, g1⟩ := he
  have G3 : Hid (w.grownBy w3 (some g)) := gb_trans hg g1
  have R3 : Hid (Rd g (c.drop n) w3) := r1
  have S3 : Hid (Sl (c.take n) v1 w3) := Sx_sl s1
  obtain ⟨ao, cap, rfl, q2, q3, q4⟩ := s1
  have SV := S3
  rw [LT.out] at q2 q4 SV ⊢
  clear K K2 hR hg g1 r1 S3
  obtain rfl := H1.out
  obtain ⟨h5, off, rfl, hne, hlt, hc⟩ := q4 (by decide)
  have c0 := hc 0 (by decide)
  rw [bz_take c 1 0 (by decide), Nat.add_zero] at c0
  have d0 := D0.out
  clear hc q4 hne D0
  generalize Sp.bz c 0 = x0 at c0 d0
  go_wp2_with fail
  refine (KN.out _).mono (fun e w4 he => ?_)
  obtain ⟨rfl, rfl⟩ := he
  go_wp2_with fail
  refine (KC.out _ _ SV.out).mono (fun e w5 he => ?_)
  obtain ⟨v5, rfl, t5, b5⟩ := he
  go_wp2_with fail
  go_ret
  exact ⟨_, rfl, Tx_lo t5 G3.out.size, Rd_below R3.out b5, gb_trans G3.out (gb_below b5)⟩
end Pk
end Go.Proofs.YtnbopclliokkcabDoor
/- pack: items, in memory; what a reader reads. -/
namespace Go.Proofs.YtnbopclliokkcabDoor
namespace Pk
open Go.RowKit
/-- An item: is it a list; its text; its kids. -/
inductive It where
  | mk (l : Bool) (t : List UInt8) (ks : List It)
def It.no : It := .mk false [] []
/-- A slice of bytes in blocks of S. -/
def Ty (S : Nat → Prop) (b : List UInt8) (v : Value) (w : World) : Prop := ∃ (ao : Option Addr) (cap : Nat), v = .slice ao b.length cap ∧ b.length ≤ cap ∧ (0 < b.length → ∃ h off, ao = some ⟨h, off, none⟩ ∧ S h ∧ h < w.heap.size ∧ ∀ j, j < b.length → w.cell? ⟨h, off + j, none⟩ = some (.int .u8 (Sp.bz b j)))
abbrev V3 := Value × Value × Value
def v3 (p : V3) : Value := .agg #[p.1, p.2.1, p.2.2]
def n3 : V3 := (undef, undef, undef)
/-- A slice of items in a block of S. -/
def Kx (S : Nat → Prop) (vs : List V3) (v : Value) (w : World) : Prop := ∃ (ao : Option Addr) (cap : Nat), v = .slice ao vs.length cap ∧ vs.length ≤ cap ∧ (0 < vs.length → ∃ h off, ao = some ⟨h, off, none⟩ ∧ S h ∧ h < w.heap.size ∧ ∀ j, j < vs.length → w.cell? ⟨h, off + 3 * j, none⟩ = some (vs.getD j n3).1 ∧ w.cell? ⟨h, off + 3 * j + 1, none⟩ = some (vs.getD j n3).2.1 ∧ w.cell? ⟨h, off + 3 * j + 2, none⟩ = some (vs.getD j n3).2.2)
/-- A value that is an item, in blocks of S. -/
inductive Iv (S : Nat → Prop) (w : World) : It → V3 → Prop where
  | mk (l : Bool) (t : List UInt8) (ks : List It) (tv kv : Value) (vs : List V3) (ht : Ty S t tv w) (hl : vs.length = ks.length) (hk : Kx S vs kv w) (hi : ∀ j, j < ks.length → Iv S w (ks.getD j It.no) (vs.getD j n3)) : Iv S w (.mk l t ks) (.bool l, tv, kv)
theorem Ty_gb {S : Nat → Prop} {b : List UInt8} {v : Value} {w w' : World} {r : Option Nat} (h : Ty S b v w) (hb : w.grownBy w' r) (hr : ∀ k, S k → some k ≠ r) : Ty S b v w' := by
  obtain ⟨ao, cap, h1, h2, h4⟩ := h
  refine ⟨ao, cap, h1, h2, fun h0 => ?_⟩
  obtain ⟨k, off, e, hne, hlt, hc⟩ := h4 h0
  have hbk : w'.heap[k]? = w.heap[k]? := hb.block k hlt (hr k hne)
  exact ⟨k, off, e, hne, Nat.lt_of_lt_of_le hlt hb.size, fun j hj => (World.cell?_of_block (a := ⟨k, off + j, none⟩) hbk).trans (hc j hj)⟩
theorem Ty_mono {S S' : Nat → Prop} {b : List UInt8} {v : Value} {w : World} (h : Ty S b v w) (hs : ∀ k, S k → k < w.heap.size → S' k) : Ty S' b v w := by
  obtain ⟨ao, cap, h1, h2, h4⟩ := h
  refine ⟨ao, cap, h1, h2, fun h0 => ?_⟩
  obtain ⟨k, off, e, hne, hlt, hc⟩ := h4 h0
  exact ⟨k, off, e, hs k hne hlt, hlt, hc⟩
theorem Ty_nil (S : Nat → Prop) (w : World) : Ty S [] (.slice none 0 0) w := ⟨none, 0, rfl, Nat.le_refl _, fun h => absurd h (by simp)⟩
theorem Tx_ty {lo : Nat} {b : List UInt8} {v : Value} {w : World} (h : Tx lo b v w) : Ty (lo ≤ ·) b v w := h
theorem Ty_sl {S : Nat → Prop} {b : List UInt8} {v : Value} {w : World} (h : Ty S b v w) : Sl b v w := by
  obtain ⟨ao, cap, h1, h2, h4⟩ := h
  refine ⟨ao, cap, h1, h2, fun h0 => ?_⟩
  obtain ⟨k, off, e, hne, hlt, hc⟩ := h4 h0
  exact ⟨k, off, e, hlt, hc⟩
theorem Kx_gb {S : Nat → Prop} {vs : List V3} {v : Value} {w w' : World} {r : Option Nat} (h : Kx S vs v w) (hb : w.grownBy w' r) (hr : ∀ k, S k → some k ≠ r) : Kx S vs v w' := by
  obtain ⟨ao, cap, h1, h2, h4⟩ := h
  refine ⟨ao, cap, h1, h2, fun h0 => ?_⟩
  obtain ⟨k, off, e, hne, hlt, hc⟩ := h4 h0
  have hbk : w'.heap[k]? = w.heap[k]? := hb.block k hlt (hr k hne)
  exact ⟨k, off, e, hne, Nat.lt_of_lt_of_le hlt hb.size, fun j hj => ⟨(World.cell?_of_block (a := ⟨k, off + 3 * j, none⟩) hbk).trans (hc j hj).1, (World.cell?_of_block (a := ⟨k, off + 3 * j + 1, none⟩) hbk).trans (hc j hj).2.1, (World.cell?_of_block (a := ⟨k, off + 3 * j + 2, none⟩) hbk).trans (hc j hj).2.2⟩⟩
theorem Kx_mono {S S' : Nat → Prop} {vs : List V3} {v : Value} {w : World} (h : Kx S vs v w) (hs : ∀ k, S k → k < w.heap.size → S' k) : Kx S' vs v w := by
  obtain ⟨ao, cap, h1, h2, h4⟩ := h
  refine ⟨ao, cap, h1, h2, fun h0 => ?_⟩
  obtain ⟨k, off, e, hne, hlt, hc⟩ := h4 h0
  exact ⟨k, off, e, hs k hne hlt, hlt, hc⟩
theorem Kx_nil (S : Nat → Prop) (w : World) : Kx S [] (.slice none 0 0) w := ⟨none, 0, rfl, Nat.le_refl _, fun h => absurd h (by simp)⟩
theorem Iv_gb {S : Nat → Prop} {t : It} {v : V3} {w w' : World} {r : Option Nat} (h : Iv S w t v) (hb : w.grownBy w' r) (hr : ∀ k, S k → some k ≠ r) : Iv S w' t v := by
  induction h with
  | mk l t ks tv kv vs ht hl hk hi ih => exact .mk l t ks tv kv vs (Ty_gb ht hb hr) hl (Kx_gb hk hb hr) ih
theorem Iv_mono {S S' : Nat → Prop} {t : It} {v : V3} {w : World} (h : Iv S w t v) (hs : ∀ k, S k → k < w.heap.size → S' k) : Iv S' w t v := by
  induction h with
  | mk l t ks tv kv vs ht hl hk hi ih => exact .mk l t ks tv kv vs (Ty_mono ht hs) hl (Kx_mono hk hs) ih
theorem Iv_below {S : Nat → Prop} {t : It} {v : V3} {w w' : World} (h : Iv S w t v) (hb : Below w.heap.size w w') : Iv S w' t v := Iv_gb (r := none) h (gb_below hb) (fun k _ e => by cases e)
/-- The cells of items. -/
def c3 (vs : List V3) : List Value := vs.flatMap fun p => [p.1, p.2.1, p.2.2]
theorem c3_len (vs : List V3) : (c3 vs).length = vs.length * 3 := by
  induction vs with
  | nil => rfl
  | cons p r ih => simp only [c3, List.flatMap_cons, List.length_append, List.length_cons, List.length_nil] at ih ⊢; omega
theorem c3_app (x y : List V3) : c3 (x ++ y) = c3 x ++ c3 y := by simp [c3]
theorem c3_get : ∀ (vs : List V3) (j : Nat), j < vs.length → (c3 vs)[3 * j]? = some (vs.getD j n3).1 ∧ (c3 vs)[3 * j + 1]? = some (vs.getD j n3).2.1 ∧ (c3 vs)[3 * j + 2]? = some (vs.getD j n3).2.2
  | [], j, h => absurd h (by simp)
  | p :: r, 0, _ => ⟨rfl, rfl, rfl⟩
  | p :: r, j + 1, h => by
    have ih := c3_get r j (by simpa using h)
    have e1 : 3 * (j + 1) = 3 * j + 1 + 1 + 1 := by omega
    have e2 : 3 * (j + 1) + 1 = 3 * j + 1 + 1 + 1 + 1 := by omega
    have e3 : 3 * (j + 1) + 2 = 3 * j + 2 + 1 + 1 + 1 := by omega
    have ec : c3 (p :: r) = p.1 :: p.2.1 :: p.2.2 :: c3 r := rfl
    rw [ec, e3, e2, e1]
    simpa only [List.getElem?_cons_succ, List.getD_cons_succ] using ih
theorem own_kx {lo : Nat} {vs : List V3} {v : Value} {w : World} (h : w.ownsRow lo 25 3 v vs.length (c3 vs)) : Kx (fun k => lo ≤ k ∧ v.ownBlock = some k) vs v w := by
  rcases h.2 with ⟨h3, h4⟩ | ⟨g, cap, cur, h3, h5⟩
  · have e : vs = [] := List.length_eq_zero_iff.1 h4
    subst e
    exact ⟨none, 0, h3, Nat.le_refl _, fun h => absurd h (by simp)⟩
  · subst h3
    refine ⟨some ⟨g, 0, none⟩, cap, rfl, h5.2.2.1, fun _ => ⟨g, 0, rfl, ⟨h5.1, rfl⟩, lt_of_heap h5.2.1, fun j hj => ?_⟩⟩
    have hc := c3_get vs j hj
    refine ⟨?_, ?_, ?_⟩
    · rw [Nat.zero_add, h.cellAt _ (by omega)]; exact hc.1
    · rw [Nat.zero_add, h.cellAt _ (by omega)]; exact hc.2.1
    · rw [Nat.zero_add, h.cellAt _ (by omega)]; exact hc.2.2
/-- What a reader reads, where kf reads a list's kids: the item, and what is behind it. -/
def rit (kf : List UInt8 → Option (List It)) (b : List UInt8) : Option (It × List UInt8) :=
  match b with
  | [] => none
  | c :: r =>
    if c.toNat < 128 then some (.mk false [c] [], r) else
    if c.toNat < 192 then (rtx (c.toNat - 128) r).map fun p => (.mk false p.1 [], p.2) else
    match rsz (c.toNat - 192) r with
    | none => none
    | some (n, k) =>
      if (r.drop k).length < n then none else
      (kf ((r.drop k).take n)).map fun ks => (.mk true [] ks, (r.drop k).drop n)
/-- Items, one behind the other, to the end; f is no less than how many bytes there are. -/
def rkf : Nat → List UInt8 → Option (List It)
  | _, [] => some []
  | 0, _ :: _ => none
  | f + 1, c :: r =>
    match rit (rkf f) (c :: r) with
    | none => none
    | some (t, r') => (rkf f r').map fun ks => t :: ks
def rkids (b : List UInt8) : Option (List It) := rkf b.length b
def ritem (b : List UInt8) : Option (It × List UInt8) := rit rkids b
theorem rtx_shorter {s : Nat} {b t r : List UInt8} (h : rtx s b = some (t, r)) : r.length ≤ b.length := by
  unfold rtx at h
  split at h
  · cases h
  · split at h
    · cases h
    · split at h
      · cases h
      · cases h
        simp only [List.length_drop]
        omega
theorem rit_shorter {kf : List UInt8 → Option (List It)} {b r : List UInt8} {t : It} (h : rit kf b = some (t, r)) : r.length < b.length := by
  unfold rit at h
  split at h
  · cases h
  · split at h
    · cases h
      simp
    · split at h
      · obtain ⟨p, h1, h2⟩ := Option.map_eq_some_iff.1 h
        cases h2
        have := rtx_shorter (t := p.1) (r := p.2) h1
        simp only [List.length_cons]
        omega
      · split at h
        · cases h
        · split at h
          · cases h
          · obtain ⟨p, h1, h2⟩ := Option.map_eq_some_iff.1 h
            cases h2
            simp only [List.length_drop, List.length_cons]
            omega
theorem rit_same {kf kg : List UInt8 → Option (List It)} {b : List UInt8} (h : ∀ c, c.length < b.length → kf c = kg c) : rit kf b = rit kg b := by
  cases b with
  | nil => rfl
  | cons c r =>
    unfold rit
    simp only
    split
    · rfl
    · split
      · rfl
      · split
        · rfl
        · split
          · rfl
          · rw [h _ (by simp only [List.length_take, List.length_drop, List.length_cons]; omega)]
theorem rkf_same : ∀ (f f' : Nat) (b : List UInt8), b.length ≤ f → b.length ≤ f' → rkf f b = rkf f' b
  | _, _, [], _, _ => by rw [rkf, rkf]
  | 0, _, _ :: _, h, _ => absurd h (by simp)
  | _, 0, _ :: _, _, h => absurd h (by simp)
  | f + 1, f' + 1, c :: r, h, h' => by
    simp only [List.length_cons] at h h'
    have e : rit (rkf f) (c :: r) = rit (rkf f') (c :: r) := rit_same fun d hd => by
      simp only [List.length_cons] at hd
      exact rkf_same f f' d (by omega) (by omega)
    rw [rkf, rkf, e]
    cases hr : rit (rkf f') (c :: r) with
    | none => rfl
    | some p =>
      have := rit_shorter (t := p.1) (r := p.2) hr
      simp only [List.length_cons] at this
      simp only
      rw [rkf_same f f' p.2 (by omega) (by omega)]
theorem ritem_shorter {b r : List UInt8} {t : It} (h : ritem b = some (t, r)) : r.length < b.length := rit_shorter h
theorem rkids_cons (c : UInt8) (r : List UInt8) : rkids (c :: r) = match ritem (c :: r) with
    | none => none
    | some (t, r') => (rkids r').map fun ks => t :: ks := by
  have e : rit (rkf r.length) (c :: r) = ritem (c :: r) := rit_same fun d hd => by
    simp only [List.length_cons] at hd
    exact rkf_same _ _ d (by omega) (Nat.le_refl _)
  unfold rkids
  rw [List.length_cons, rkf, e]
  cases hr : ritem (c :: r) with
  | none => rfl
  | some p =>
    have := ritem_shorter (t := p.1) (r := p.2) hr
    simp only [List.length_cons] at this
    simp only
    rw [rkf_same r.length p.2.length p.2 (by omega) (Nat.le_refl _)]
theorem rkids_nil : rkids [] = some [] := by unfold rkids; rw [rkf]
theorem rkids_none {b : List UInt8} (h0 : 0 < b.length) (h : ritem b = none) : rkids b = none := by
  cases b with
  | nil => simp at h0
  | cons c r => rw [rkids_cons, h]
theorem rkids_some {b r : List UInt8} {t : It} (h0 : 0 < b.length) (h : ritem b = some (t, r)) : rkids b = (rkids r).map fun ks => t :: ks := by
  cases b with
  | nil => simp at h0
  | cons c r2 => rw [rkids_cons, h]
end Pk
end Go.Proofs.YtnbopclliokkcabDoor
/- pack's reader: list. -/
namespace Go.Proofs.YtnbopclliokkcabDoor
namespace Pk
open Go.RowKit
/-- The kids behind a head that has s beside its mark, and what is behind them. -/
def rls (s : Nat) (b : List UInt8) : Option (List It × List UInt8) :=
  match rsz s b with
  | none => none
  | some (n, k) => if (b.drop k).length < n then none else (rkids ((b.drop k).take n)).map fun ks => (ks, (b.drop k).drop n)
/-- The method item, at texts of no more than N bytes. -/
def ItemC (N : Nat) : Prop := ∀ (b : List UInt8) (g : Nat) (w : World), b.length ≤ N → Rd g b w → Calls Tryd.prog 26 #[.pointer (some ⟨g, 0, none⟩)] w fun e w' => w.grownBy w' (some g) ∧ ((ritem b = none ∧ e = .panicked [{ v := FT, recovered := false }]) ∨ ∃ t r v, ritem b = some (t, r) ∧ e = .returned (v3 v) ∧ Iv (w.heap.size ≤ ·) w' t v ∧ Rd g r w')
theorem rd_new {g : Nat} {b : List UInt8} {v : Value} {w : World} (h : Sx g b v w) (ty : TypeId) : Rd w.heap.size b (w.alloc (.cells #[v] ty)) := by
  have hn := heap_alloc_new w (.cells #[v] ty)
  have hb : Below w.heap.size w (w.alloc (.cells #[v] ty)) := (Below.refl _ _).alloc (Nat.le_refl _) _
  refine ⟨by simp, fun o => by simp only [World.frozen?, hn]; simp, v, by simp only [World.cell?, hn]; simp, ?_⟩
  obtain ⟨ao, cap, h1, h2, h3, h4⟩ := h
  refine ⟨ao, cap, h1, h2, h3, fun h0 => ?_⟩
  obtain ⟨k, off, e, hne, hlt, hc⟩ := h4 h0
  exact ⟨k, off, e, hlt, Nat.lt_of_lt_of_le hlt hb.size, fun j hj => (hb.cell (p := ⟨k, off + j, none⟩) hlt).trans (hc j hj)⟩
theorem Iv_form {S : Nat → Prop} {w : World} {t : It} {v : V3} (h : Iv S w t v) : ∃ l a1 n1 c1 a2 n2 c2, v = (.bool l, .slice a1 n1 c1, .slice a2 n2 c2) := by
  cases h with
  | mk l t ks tv kv vs ht hl hk hi =>
    obtain ⟨a1, c1, rfl, _⟩ := ht
    obtain ⟨a2, c2, rfl, _⟩ := hk
    exact ⟨l, a1, _, c1, a2, _, c2, rfl⟩
theorem Rd_up {g : Nat} {b : List UInt8} {w w' : World} {r : Option Nat} (h : Rd g b w) (hb : w.grownBy w' r) (h1 : ∀ j, j ≤ g → some j ≠ r) : Rd g b w' := by
  obtain ⟨v, c1, ao, cap, e1, e2, e3, e4⟩ := h.s
  have hbk : w'.heap[g]? = w.heap[g]? := hb.block g h.hi (h1 g (Nat.le_refl _))
  refine ⟨Nat.lt_of_lt_of_le h.hi hb.size, fun o => (World.frozen?_of_block (a := ⟨g, o, none⟩) hbk).trans (h.f o), v, (World.cell?_of_block (a := ⟨g, 0, none⟩) hbk).trans c1, ao, cap, e1, e2, e3, fun h0 => ?_⟩
  obtain ⟨k, off, e, hne, hlt, hc⟩ := e4 h0
  have hbk2 : w'.heap[k]? = w.heap[k]? := hb.block k hlt (h1 k (Nat.le_of_lt hne))
  exact ⟨k, off, e, hne, Nat.lt_of_lt_of_le hlt hb.size, fun j hj => (World.cell?_of_block (a := ⟨k, off + j, none⟩) hbk2).trans (hc j hj)⟩
theorem infoI : (Tryd.prog.info? 25).map (fun i => (i.zero, i.size, i.bytes)) = some (some (.agg #[.bool false, .slice none 0 0, .slice none 0 0]), 3, 56) := by kernel_rfl
/-- While kids are read: those that were are ks, at v6; what is left is r. -/
structure LI (gi : Nat) (w3 : World) (C : List UInt8) (v6 : Value) (ks : List It) (vs : List V3) (r : List UInt8) (wr : World) : Prop where
  e : rkids C = (rkids r).map fun l => ks ++ l
  l : ks.length + r.length ≤ C.length
  rd : Rd gi r wr
  b : Below gi w3 wr
  o : wr.ownsRow (gi + 1) 25 3 v6 vs.length (c3 vs)
  n : vs.length = ks.length
  i : ∀ j, j < ks.length → Iv (fun k => gi + 1 ≤ k ∧ v6.ownBlock ≠ some k) wr (ks.getD j It.no) (vs.getD j n3)
theorem LI_step {gi : Nat} {w3 wr w4 : World} {C r r' : List UInt8} {v6 : Value} {ks : List It} {vs : List V3} {t : It} {l : Bool} {a1 a2 : Option Addr} {n1 c1 n2 c2 : Nat} (ty : TypeId)
    (h : LI gi w3 C v6 ks vs r wr) (hr0 : 0 < r.length) (hg : wr.grownBy w4 (some gi)) (hi : ritem r = some (t, r')) (iv : Iv (wr.heap.size ≤ ·) w4 t (.bool l, .slice a1 n1 c1, .slice a2 n2 c2)) (rd : Rd gi r' w4) (hC : C.length ≤ 4194304) :
    ∃ v6' w6, (Builtin.append_ #[23, 23] ty #[v6, .slice (some ⟨w4.heap.size, 0, none⟩) 1 1]).run Tryd.prog (w4.alloc (.cells #[.bool l, .slice a1 n1 c1, .slice a2 n2 c2] 25)) = .ok v6' w6 ∧ LI gi w3 C v6' (ks ++ [t]) (vs ++ [(.bool l, .slice a1 n1 c1, .slice a2 n2 c2)]) r' w6 := by
  obtain ⟨i0, hi0, hz0, hz1, hz2⟩ := info_parts infoI
  have hgi := h.rd.hi
  have hlo := h.o.lt
  have hs := ritem_shorter hi
  have hk := h.l
  have hn := h.n
  have o4 : w4.ownsRow (gi + 1) 25 3 v6 vs.length (c3 vs) := h.o.kept hg (by
    cases hv : v6.ownBlock with
    | none => exact .inl rfl
    | some k =>
      right
      intro e
      have := (hlo k hv).1
      injection e with e
      omega)
  have hwr := hg.size
  have hnew := heap_alloc_new w4 (.cells #[.bool l, .slice a1 n1 c1, .slice a2 n2 c2] 25)
  have hsz : (w4.alloc (.cells #[.bool l, .slice a1 n1 c1, .slice a2 n2 c2] 25)).heap.size = w4.heap.size + 1 := by simp
  have b5 : Below w4.heap.size w4 (w4.alloc (.cells #[.bool l, .slice a1 n1 c1, .slice a2 n2 c2] 25)) := (Below.refl _ _).alloc (Nat.le_refl _) _
  have o5 := o4.alloc (.cells #[.bool l, .slice a1 n1 c1, .slice a2 n2 c2] 25)
  generalize w4.alloc (.cells #[.bool l, .slice a1 n1 c1, .slice a2 n2 c2] 25) = w5 at *
  obtain ⟨G, cap, w6, hr, h6, hgr, hG, _⟩ := run_append_lies (P := Tryd.prog) w5 23 ty (gi + 1) 25 i0 (.agg #[.bool false, .slice none 0 0, .slice none 0 0]) 3 56 Tryd.underlying23 hi0 hz0 hz1 hz2 rfl (by decide) v6 vs.length (c3 vs) o5 ⟨w4.heap.size, 0, none⟩ 1 1 [.bool l, .slice a1 n1 c1, .slice a2 n2 c2] rfl
    (fun j u hj => by
      have ea : (⟨w4.heap.size, 0, none⟩ : Addr).add j = ⟨w4.heap.size, j, none⟩ := by unfold Addr.add; split <;> simp_all
      rw [ea]
      simp only [World.cell?, hnew]
      simpa using hj) (fun u hu => by
        simp only [List.mem_cons, List.not_mem_nil, or_false] at hu
        rcases hu with rfl | rfl | rfl <;> rfl) (by decide) (by unfold maxLen; omega) (by omega) (by omega) _ rfl
  have hvo : ∀ k, v6.ownBlock = some k → gi + 1 ≤ k ∧ k < wr.heap.size := hlo
  have hGS : ∀ k, k < w5.heap.size → v6.ownBlock ≠ some k → some G ≠ some k := fun k hk1 hk2 e => by
    injection e with e
    subst e
    rcases hG with hG | hG
    · exact hk2 hG
    · omega
  refine ⟨_, w6, hr, ⟨?_, ?_, ?_, ?_, ?_, ?_, fun j hj => ?_⟩⟩
  · rw [h.e, rkids_some hr0 hi, Option.map_map]
    congr 1
    funext x
    simp
  · rw [List.length_append, List.length_singleton]
    omega
  · exact Rd_up (Rd_below rd b5) hgr (fun j hj e => by have := (hvo j e.symm).1; omega)
  · have x1 : Below gi wr w4 := ⟨hg.os, hg.tape, hg.output, hg.size, fun j hj => hg.block j (by omega) (fun e => by injection e with e; omega)⟩
    have x2 : Below gi w5 w6 := ⟨hgr.os, hgr.tape, hgr.output, hgr.size, fun j hj => hgr.block j (by omega) (fun e => by have := (hvo j e.symm).1; omega)⟩
    exact ((h.b.trans x1).trans (b5.mono (by omega))).trans x2
  · rw [List.length_append, c3_app]
    exact h6
  · rw [List.length_append, List.length_append, hn]
    rfl
  · rw [List.length_append, List.length_singleton] at hj
    by_cases hj2 : j < ks.length
    · have e1 : (ks ++ [t]).getD j It.no = ks.getD j It.no := by simp [List.getD_eq_getElem?_getD, List.getElem?_append_left hj2]
      have e2 : (vs ++ [((.bool l, .slice a1 n1 c1, .slice a2 n2 c2) : V3)]).getD j n3 = vs.getD j n3 := by simp [List.getD_eq_getElem?_getD, List.getElem?_append_left (hn ▸ hj2)]
      rw [e1, e2]
      have i5 := Iv_below (Iv_gb (h.i j hj2) hg (fun k hk1 e => by injection e with e; omega)) b5
      exact Iv_gb (Iv_mono (S' := fun k => (gi + 1 ≤ k ∧ some G ≠ some k) ∧ v6.ownBlock ≠ some k) i5 (fun k hk1 hk2 => ⟨⟨hk1.1, hGS k hk2 hk1.2⟩, hk1.2⟩)) hgr (fun k hk1 e => hk1.2 e.symm) |> fun x => Iv_mono x (fun k hk1 _ => hk1.1)
    · have ej : j = ks.length := by omega
      subst ej
      have e1 : (ks ++ [t]).getD ks.length It.no = t := by simp [List.getD_eq_getElem?_getD]
      have e2 : (vs ++ [((.bool l, .slice a1 n1 c1, .slice a2 n2 c2) : V3)]).getD ks.length n3 = (.bool l, .slice a1 n1 c1, .slice a2 n2 c2) := by rw [← hn]; simp [List.getD_eq_getElem?_getD]
      rw [e1, e2]
      have i5 := Iv_below iv b5
      have hS : ∀ k, wr.heap.size ≤ k → v6.ownBlock ≠ some k := fun k hk1 e => by have := (hvo k e).2; omega
      exact Iv_gb (Iv_mono (S' := fun k => (gi + 1 ≤ k ∧ some G ≠ some k) ∧ v6.ownBlock ≠ some k) i5 (fun k hk1 hk2 => ⟨⟨by omega, hGS k hk2 (hS k hk1)⟩, hS k hk1⟩)) hgr (fun k hk1 e => hk1.2 e.symm) |> fun x => Iv_mono x (fun k hk1 _ => hk1.1)
set_option maxHeartbeats 400000 in
set_option maxRecDepth 100000 in
theorem list_no1 (g s : Nat) (b : List UInt8) (hs : s < 64) (hb : b.length ≤ 4194304) (hr : rsz s b = none) (w : World) (h : Rd g b w) :
    Calls Tryd.prog 36 #[.pointer (some ⟨g, 0, none⟩), .int .u8 (s : Int)] w fun e w' => e = .panicked [{ v := FT, recovered := false }] ∧ w.grownBy w' (some g) := by
  have K : Hid (Calls Tryd.prog 42 #[.pointer (some ⟨g, 0, none⟩), .int .u8 (s : Int)] w fun e w' => e = .panicked [{ v := FT, recovered := false }] ∧ w.grownBy w' (some g)) := size_no g s b hs hb hr w h
  clear hs hb hr h
  generalize FT = X at *
  go_enter Tryd.func36, Tryd.ntmps36
  go_wp2_with fail
  refine K.out.mono (fun e w2 he => ?_)
  obtain ⟨rfl, hg⟩ := he
  exact ⟨rfl, rfl, hg⟩
set_option maxHeartbeats 400000 in
set_option maxRecDepth 100000 in
theorem list_no2 (g s n k : Nat) (b : List UInt8) (hs : s < 64) (hb : b.length ≤ 4194304) (hr : rsz s b = some (n, k)) (hn : (b.drop k).length < n) (w : World) (h : Rd g b w) :
    Calls Tryd.prog 36 #[.pointer (some ⟨g, 0, none⟩), .int .u8 (s : Int)] w fun e w' => e = .panicked [{ v := FT, recovered := false }] ∧ w.grownBy w' (some g) := by
  have K : Hid (Calls Tryd.prog 42 #[.pointer (some ⟨g, 0, none⟩), .int .u8 (s : Int)] w fun e w' => e = .returned (.int .i64 (n : Int)) ∧ Rd g (b.drop k) w' ∧ w.grownBy w' (some g)) := size_ok g s n k b hs hb hr w h
  have K2 : Hid (∀ w : World, Rd g (b.drop k) w → Calls Tryd.prog 34 #[.pointer (some ⟨g, 0, none⟩), .int .i64 (n : Int)] w fun e w' => e = .panicked [{ v := FT, recovered := false }] ∧ w' = w) := fun w h => take_no g _ n w h hn
  clear hs hb hr h hn
  generalize FT = X at *
  go_enter Tryd.func36, Tryd.ntmps36
  go_wp2_with fail
  refine K.out.mono (fun e w2 he => ?_)
  obtain ⟨rfl, hR, hg⟩ := he
  go_wp2_with fail
  refine (K2.out _ hR).mono (fun e w3 he => ?_)
  obtain ⟨rfl, rfl⟩ := he
  exact ⟨rfl, rfl, hg⟩
set_option maxHeartbeats 1000000 in
set_option maxRecDepth 100000 in
theorem list_go (N : Nat) (IH : ItemC N) (g s n k : Nat) (b : List UInt8) (hs : s < 64) (hb : b.length ≤ 4194304) (hbN : b.length ≤ N) (hr : rsz s b = some (n, k)) (hn : n ≤ (b.drop k).length) (w : World) (h : Rd g b w) :
    Calls Tryd.prog 36 #[.pointer (some ⟨g, 0, none⟩), .int .u8 (s : Int)] w fun e w' => w.grownBy w' (some g) ∧ ((rkids ((b.drop k).take n) = none ∧ e = .panicked [{ v := FT, recovered := false }]) ∨ ∃ ks vs kv, rkids ((b.drop k).take n) = some ks ∧ e = .returned kv ∧ Kx (w.heap.size ≤ ·) vs kv w' ∧ vs.length = ks.length ∧ (∀ j, j < ks.length → Iv (w.heap.size ≤ ·) w' (ks.getD j It.no) (vs.getD j n3)) ∧ Rd g ((b.drop k).drop n) w') := by
  have K : Hid (Calls Tryd.prog 42 #[.pointer (some ⟨g, 0, none⟩), .int .u8 (s : Int)] w fun e w' => e = .returned (.int .i64 (n : Int)) ∧ Rd g (b.drop k) w' ∧ w.grownBy w' (some g)) := size_ok g s n k b hs hb hr w h
  have K2 : Hid (∀ w : World, Rd g (b.drop k) w → Calls Tryd.prog 34 #[.pointer (some ⟨g, 0, none⟩), .int .i64 (n : Int)] w fun e w' => ∃ v1, e = .returned v1 ∧ Sx g ((b.drop k).take n) v1 w' ∧ Rd g ((b.drop k).drop n) w' ∧ w.grownBy w' (some g)) := fun w h => take_ok g _ n w h hn
  have LT : Hid (((b.drop k).take n).length ≤ N ∧ ((b.drop k).take n).length ≤ 4194304) := by show _ ∧ _; simp only [List.length_take, List.length_drop]; omega
  have HX : Hid (∀ (b : List UInt8) (g : Nat) (w : World), b.length ≤ N → Rd g b w → Calls Tryd.prog 26 #[.pointer (some ⟨g, 0, none⟩)] w fun e w' => w.grownBy w' (some g) ∧ ((ritem b = none ∧ e = .panicked [{ v := FT, recovered := false }]) ∨ ∃ t r v, ritem b = some (t, r) ∧ e = .returned (v3 v) ∧ Iv (w.heap.size ≤ ·) w' t v ∧ Rd g r w')) := IH
  clear IH hs hb hbN hr hn h
  generalize hc : b.drop k = c at *
  clear hc
  generalize FT = X at *
  go_enter Tryd.func36, Tryd.ntmps36
  go_wp2_with fail
  refine K.out.mono (fun e w2 he => ?_)
  obtain ⟨rfl, hR, hg⟩ := he
  go_wp2_with fail
  refine (K2.out _ hR).mono (fun e w3 he => ?_)
  obtain ⟨v1, rfl, s1, r1, g1⟩ := he
  have G3 : Hid (w.grownBy w3 (some g)) := gb_trans hg g1
  have R3 : Hid (Rd g (c.drop n) w3) := r1
  have S3 : Hid (Sx g (c.take n) v1 w3) := s1
  obtain ⟨ao, cap, rfl, q2, q3, q4⟩ := s1
  clear K K2 hR hg g1 r1 q2 q3 q4
  generalize hm : (c.take n).length = m at *
  go_wp2_with fail
  have r4 := rd_new S3.out 62
  have b4 : Below w3.heap.size w3 (w3.alloc (.cells #[.slice ao m cap] 62)) := (Below.refl _ _).alloc (Nat.le_refl _) _
  obtain ⟨gi, egi⟩ : ∃ gi, gi = w3.heap.size := ⟨_, rfl⟩
  have EG : Hid (gi = w3.heap.size) := egi
  rw [← egi] at r4 b4 ⊢
  clear egi S3
  generalize w3.alloc (.cells #[.slice ao m cap] 62) = W1 at r4 b4 ⊢
  have L0 : LI gi w3 (c.take n) (.slice none 0 0) [] [] (c.take n) W1 := ⟨by simp, by simp, r4, b4, World.ownsRow_nil _ _ _ _, rfl, fun j hj => absurd hj (by simp)⟩
  have LC : Hid ((c.take n).length ≤ N ∧ (c.take n).length ≤ 4194304) := hm ▸ LT
  clear r4 b4 LT hm
  go_loopw [6] (fun v6 wr => ∃ ks vs r, LI gi w3 (c.take n) v6 ks vs r wr) (fun _ wr => slen ((wr.cell? ⟨gi, 0, none⟩).getD undef))
  case atStart => exact ⟨[], [], _, L0⟩
  case round =>
    clear L0
    obtain ⟨ks, vs, r, hI⟩ := hrel
    have HI2 : Hid (LI gi w3 (c.take n) u6 ks vs r wr) := hI
    obtain ⟨vr, c1, ao2, cap2, rfl, -⟩ := hI.rd.s
    by_cases hlt : 0 < r.length
    · have KI : Hid (Calls Tryd.prog 26 #[.pointer (some ⟨gi, 0, none⟩)] wr fun e w' => wr.grownBy w' (some gi) ∧ ((ritem r = none ∧ e = .panicked [{ v := X, recovered := false }]) ∨ ∃ t r2 v, ritem r = some (t, r2) ∧ e = .returned (v3 v) ∧ Iv (wr.heap.size ≤ ·) w' t v ∧ Rd gi r2 w')) := HX.out r gi wr (by have := hI.l; have := LC.out.1; omega) hI.rd
      have d0 : decide ((0 : Int) < (r.length : Int)) = true := decide_eq_true (by omega)
      have HLT : Hid (0 < r.length) := hlt
      clear hI hlt
      generalize hq : r.length = q at *
      go_wp2_with fail
      refine KI.out.mono (fun e w4 he => ?_)
      obtain ⟨hg, ⟨hn, rfl⟩ | ⟨t, r', v, hi, rfl, iv, rd⟩⟩ := he
      · have A1 : w.grownBy w4 (some g) := gb_trans G3.out (gb_below (by
          have x1 : Below gi wr w4 := ⟨hg.os, hg.tape, hg.output, hg.size, fun j hj => hg.block j (by have := HI2.out.rd.hi; omega) (fun e => by injection e with e; omega)⟩
          rw [← EG.out]
          exact HI2.out.b.trans x1))
        have A2 : rkids (c.take n) = none := by rw [HI2.out.e, rkids_none (by rw [hq]; exact HLT.out) hn]; rfl
        clear KI c1 d0
        exact ⟨rfl, A1, .inl ⟨A2, rfl⟩⟩
      · obtain ⟨l, a1, n1, c2, a2, n2, c3, rfl⟩ := Iv_form iv
        obtain ⟨v6', w6, hap, hI6⟩ := LI_step 23 HI2.out (by rw [hq]; exact HLT.out) hg hi iv rd LC.out.2
        have hM : Hid (slen ((w6.cell? ⟨gi, 0, none⟩).getD undef) < q) := by
          obtain ⟨vr2, y1, ao3, cap3, rfl, -⟩ := hI6.rd.s
          have := ritem_shorter hi
          show _ < _
          rw [y1]
          simp only [Option.getD_some, slen]
          omega
        clear KI d0 HI2 hg iv rd hi
        dsimp only [v3]
        go_wp2_with (at_builtin; refine wpList_apw rfl rfl rfl rfl hap ?_)
        refine ⟨⟨_, _, _, hI6⟩, ?_⟩
        have e9 : slen ((wr.cell? ⟨gi, 0, none⟩).getD undef) = q := by rw [c1]; rfl
        exact Nat.lt_of_lt_of_eq hM.out e9.symm
    · have e0 : r = [] := List.length_eq_zero_iff.1 (by omega)
      subst e0
      have d0 : decide ((0 : Int) < (([] : List UInt8).length : Int)) = false := rfl
      clear hlt hI
      go_wp2_with fail
      go_ret
      have hJ := HI2.out
      have eg := EG.out
      have hsz := G3.out.size
      refine ⟨gb_trans G3.out (gb_below (by rw [← eg]; exact hJ.b)), .inr ⟨ks, vs, u6, ?_, rfl, Kx_mono (own_kx hJ.o) (fun k hk _ => by omega), hJ.n, fun j hj => Iv_mono (hJ.i j hj) (fun k hk _ => by omega), Rd_below R3.out (by rw [← eg]; exact hJ.b)⟩⟩
      rw [hJ.e, rkids_nil]
      simp
end Pk
end Go.Proofs.YtnbopclliokkcabDoor
/- pack's reader: item. -/
namespace Go.Proofs.YtnbopclliokkcabDoor
namespace Pk
open Go.RowKit
theorem gb_new {w a b : World} {g G : Nat} (h : w.grownBy a (some g)) (k : a.grownBy b (some G)) (hG : w.heap.size ≤ G) : w.grownBy b (some g) :=
  ⟨k.os.trans h.os, k.tape.trans h.tape, k.output.trans h.output, Nat.le_trans h.size k.size, fun j hj hne => (k.block j (Nat.lt_of_lt_of_le hj h.size) (fun e => by injection e with e; omega)).trans (h.block j hj hne)⟩
theorem infoIa : (Tryd.prog.info? 25).map (·.size) = some 3 := by kernel_rfl
/-- A variable of an item at block G. -/
structure B3 (G : Nat) (w : World) : Prop where
  hi : G < w.heap.size
  c : ∀ o, o < 3 → (w.cell? ⟨G, o, none⟩).isSome = true
  f : ∀ o, w.frozen? ⟨G, o, none⟩ = false
theorem B3_gb {G : Nat} {w w' : World} {r : Option Nat} (h : B3 G w) (hb : w.grownBy w' r) (hr : some G ≠ r) : B3 G w' := by
  have hbk : w'.heap[G]? = w.heap[G]? := hb.block G h.hi hr
  exact ⟨Nat.lt_of_lt_of_le h.hi hb.size, fun o ho => by rw [World.cell?_of_block (a := ⟨G, o, none⟩) hbk]; exact h.c o ho, fun o => (World.frozen?_of_block (a := ⟨G, o, none⟩) hbk).trans (h.f o)⟩
theorem B3_new (w : World) : B3 w.heap.size (w.alloc (.cells #[.bool false, .slice none 0 0, .slice none 0 0] 25)) := by
  have hn := heap_alloc_new w (.cells #[.bool false, .slice none 0 0, .slice none 0 0] 25)
  refine ⟨by simp, fun o ho => ?_, fun o => by simp only [World.frozen?, hn]; simp⟩
  simp only [World.cell?, hn]
  have : o = 0 ∨ o = 1 ∨ o = 2 := by omega
  rcases this with rfl | rfl | rfl <;> rfl
theorem gb_sets (G : Nat) : ∀ (vs : List Value) (o : Nat) (w : World), w.grownBy (w.setCells G o vs) (some G)
  | [], _, w => gb_refl w _
  | v :: vs, o, w => gb_trans (gb_set w G o v) (gb_sets G vs (o + 1) (w.setCell ⟨G, o, none⟩ v))
theorem wpList_st3 {ops : Array Oper} {rest : List Oper} {op : Oper} {a : Act} {w : World} {Q : Exit → Act → World → Prop} {x y : Operand} {G : Nat} {l : Bool} {a1 a2 : Option Addr} {n1 c1 n2 c2 : Nat} (hgd : op.guard = none) (ho : op.op = .store 25 x y)
    (hx : a.eval x = .pointer (some ⟨G, 0, none⟩)) (hy : a.eval y = .agg #[.bool l, .slice a1 n1 c1, .slice a2 n2 c2]) (hB : B3 G w)
    (h : ∀ w', w.grownBy w' (some G) → w'.cell? ⟨G, 0, none⟩ = some (.bool l) → w'.cell? ⟨G, 1, none⟩ = some (.slice a1 n1 c1) → w'.cell? ⟨G, 2, none⟩ = some (.slice a2 n2 c2) → wpList Tryd.prog ops Q rest (a.put op.dst undef) w') : wpList Tryd.prog ops Q (op :: rest) a w := by
  have ht : w.there G 0 3 := fun j hj => by rw [Nat.zero_add]; exact ⟨hB.c j hj, hB.f j⟩
  have hs := World.rangeAt_setCells_same w G 0 [.bool l, .slice a1 n1 c1, .slice a2 n2 c2] ht
  refine wpList_store_mid hgd 25 x y ho G 0 #[.bool l, .slice a1 n1 c1, .slice a2 n2 c2] hx hy ht infoIa (all_oneCell_toArray (cs := [.bool l, .slice a1 n1 c1, .slice a2 n2 c2]) (fun v hv => by simp only [List.mem_cons, List.not_mem_nil, or_false] at hv; rcases hv with rfl | rfl | rfl <;> rfl)) ?_
  exact h _ (gb_sets G _ 0 w) (hs 0 _ rfl) (hs 1 _ rfl) (hs 2 _ rfl)
set_option maxHeartbeats 400000 in
set_option maxRecDepth 100000 in
theorem item_none (g : Nat) (w : World) (h : Rd g [] w) :
    Calls Tryd.prog 26 #[.pointer (some ⟨g, 0, none⟩)] w fun e w' => e = .panicked [{ v := FT, recovered := false }] ∧ w.grownBy w' (some g) := by
  have h1 := Rd_below h ((Below.refl _ _).alloc (Nat.le_refl _) (.cells #[.bool false, .slice none 0 0, .slice none 0 0] 25))
  have K : Hid (Calls Tryd.prog 34 #[.pointer (some ⟨g, 0, none⟩), .int .i64 1] (w.alloc (.cells #[.bool false, .slice none 0 0, .slice none 0 0] 25)) fun e w' => e = .panicked [{ v := FT, recovered := false }] ∧ w' = (w.alloc (.cells #[.bool false, .slice none 0 0, .slice none 0 0] 25))) := take_no g _ 1 _ h1 (by decide)
  have A : Hid (w.grownBy (w.alloc (.cells #[.bool false, .slice none 0 0, .slice none 0 0] 25)) (some g)) := World.grownBy_alloc _ _ _
  clear h h1
  generalize FT = X at *
  go_enter Tryd.func26, Tryd.ntmps26
  go_wp2_with fail
  refine K.out.mono (fun e w3 he => ?_)
  obtain ⟨rfl, rfl⟩ := he
  exact ⟨rfl, rfl, A.out⟩
theorem resI (f : Func) (tm : Array Value) (W : World) (g s : Nat) (p q r : Value) (hf : f.results = #[.cell s 25]) (h : tm.getD s undef = .pointer (some ⟨g, 0, none⟩)) (c0 : W.cell? ⟨g, 0, none⟩ = some p) (c1 : W.cell? ⟨g, 1, none⟩ = some q) (c2 : W.cell? ⟨g, 2, none⟩ = some r) : (results f tm).run Tryd.prog W = .ok (.agg #[p, q, r]) W := by
  simp at h
  simp [results, hf, go_sem, h, c0, c1, c2]
set_option maxHeartbeats 1000000 in
set_option maxRecDepth 100000 in
theorem item_one (g : Nat) (c : UInt8) (r : List UInt8) (w : World) (h : Rd g (c :: r) w) (hc : c.toNat < 128) :
    Calls Tryd.prog 26 #[.pointer (some ⟨g, 0, none⟩)] w fun e w' => ∃ v, e = .returned (v3 v) ∧ Iv (w.heap.size ≤ ·) w' (.mk false [c] []) v ∧ Rd g r w' ∧ w.grownBy w' (some g) := by
  have hgw := h.hi
  have h1 := Rd_below h ((Below.refl _ _).alloc (Nat.le_refl _) (.cells #[.bool false, .slice none 0 0, .slice none 0 0] 25))
  have K := take_ok g _ 1 _ h1 (by simp)
  have A : Hid (w.grownBy (w.alloc (.cells #[.bool false, .slice none 0 0, .slice none 0 0] 25)) (some g)) := World.grownBy_alloc _ _ _
  have hG := B3_new w
  have d0 : decide ((c.toNat : Int) < 128) = true := decide_eq_true (by omega)
  obtain ⟨G, eG⟩ : ∃ G, G = w.heap.size := ⟨_, rfl⟩
  have EG : Hid (G = w.heap.size) := eG
  have HW : Hid (g < G) := eG ▸ hgw
  clear h h1 hgw hc
  go_enter Tryd.func26, Tryd.ntmps26
  go_upto_region 1 with fail
  rw [← eG] at hG ⊢
  clear eG
  generalize w.alloc (.cells #[.bool false, .slice none 0 0, .slice none 0 0] 25) = W0 at *
  go_wp2_with fail
  refine K.mono (fun e w3 he => ?_)
  obtain ⟨v1, rfl, s1, r1, g1⟩ := he
  obtain ⟨ao, cap, rfl, q2, q3, q4⟩ := s1
  obtain ⟨k, off, rfl, hkg, hlt, hcell⟩ := q4 (by simp)
  have c1 : w3.cell? ⟨k, off, none⟩ = some (.int .u8 (c.toNat : Int)) := hcell 0 (by simp)
  have hG3 : B3 G w3 := B3_gb hG g1 (fun e => by injection e with e; have := HW.out; omega)
  have e1 : (List.take 1 (c :: r)).length = 1 := by simp
  rw [e1] at q2 ⊢
  have hGl : G < w3.heap.size := Nat.lt_of_lt_of_le hG.hi g1.size
  have GL : Hid (G < w3.heap.size) := hGl
  clear K hcell q4 e1
  have hG4 : B3 G (w3.alloc (.cells #[.int .u8 (c.toNat : Int)] 5)) := B3_gb hG3 (World.grownBy_alloc _ _ none) (fun e => by cases e)
  have o4 : (w3.alloc (.cells #[.int .u8 (c.toNat : Int)] 5)).ownsRow w3.heap.size 5 1 (.slice (some ⟨w3.heap.size, 0, none⟩) 1 1) [c].length (bcs [c]) := World.ownsRow_lit w3 #[.int .u8 (c.toNat : Int)] 1 (Nat.le_refl _) (by decide) rfl
  have T4 : Hid (Ty (w3.heap.size ≤ ·) [c] (.slice (some ⟨w3.heap.size, 0, none⟩) 1 1) (w3.alloc (.cells #[.int .u8 (c.toNat : Int)] 5))) := Tx_ty (own_tx o4)
  have G4 : Hid (w.grownBy (w3.alloc (.cells #[.int .u8 (c.toNat : Int)] 5)) (some g)) := gb_trans (gb_trans A.out g1) (World.grownBy_alloc _ _ _)
  have R4 : Hid (Rd g r (w3.alloc (.cells #[.int .u8 (c.toNat : Int)] 5))) := Rd_below r1 ((Below.refl _ _).alloc (Nat.le_refl _) _)
  clear hG hG3 o4 r1 g1 hGl hkg A
  go_wp2_with (refine wpList_st3 rfl rfl rfl rfl hG4 ?_)
  intro w9 gb9 z0 z1 z2
  have G9 : Hid (w.grownBy w9 (some g)) := gb_new G4.out gb9 (by rw [EG.out]; exact Nat.le_refl _)
  have R9 : Hid (Rd g r w9) := Rd_up R4.out gb9 (fun j hj e => by injection e with e; have := HW.out; omega)
  have T9 : Hid (Ty (w.heap.size ≤ ·) [c] (.slice (some ⟨w3.heap.size, 0, none⟩) 1 1) w9) := Ty_mono (Ty_gb T4.out gb9 (fun k hk e => by injection e with e; have := GL.out; omega)) (fun k hk _ => by have := GL.out; have := EG.out; omega)
  clear T4 G4 R4 gb9 hG4
  generalize w3.heap.size = g4 at *
  go_wp2_with fail
  exact bodyPost_ret (v := .agg #[.bool false, .slice (some ⟨g4, 0, none⟩) 1 1, .slice none 0 0]) (resI _ _ _ G 2 _ _ _ rfl rfl z0 z1 z2) rfl ⟨(.bool false, .slice (some ⟨g4, 0, none⟩) 1 1, .slice none 0 0), rfl, .mk _ _ _ _ _ [] T9.out rfl (Kx_nil _ _) (fun j hj => absurd hj (by simp)), R9.out, G9.out⟩
set_option maxHeartbeats 1000000 in
set_option maxRecDepth 100000 in
theorem item_text_no (g : Nat) (c : UInt8) (r : List UInt8) (w : World) (h : Rd g (c :: r) w) (hc : 128 ≤ c.toNat) (hd : c.toNat < 192) (KT : Hid (∀ w : World, Rd g r w → Calls Tryd.prog 35 #[.pointer (some ⟨g, 0, none⟩), .int .u8 ((c.toNat : Int) - 128)] w fun e w' => e = .panicked [{ v := FT, recovered := false }] ∧ w.grownBy w' (some g))) :
    Calls Tryd.prog 26 #[.pointer (some ⟨g, 0, none⟩)] w fun e w' => e = .panicked [{ v := FT, recovered := false }] ∧ w.grownBy w' (some g) := by
  have hgw := h.hi
  have h1 := Rd_below h ((Below.refl _ _).alloc (Nat.le_refl _) (.cells #[.bool false, .slice none 0 0, .slice none 0 0] 25))
  have K := take_ok g _ 1 _ h1 (by simp)
  have A : Hid (w.grownBy (w.alloc (.cells #[.bool false, .slice none 0 0, .slice none 0 0] 25)) (some g)) := World.grownBy_alloc _ _ _
  have hG := B3_new w
  have d0 : decide ((c.toNat : Int) < 128) = false := decide_eq_false (by omega)
  have d1 : decide ((c.toNat : Int) < 192) = true := decide_eq_true (by omega)
  have d2 : IntKind.u8.wrap ((c.toNat : Int) - 128) = (c.toNat : Int) - 128 := by rw [IntKind.wrap_u8]; have := c.toNat_lt; omega
  obtain ⟨G, eG⟩ : ∃ G, G = w.heap.size := ⟨_, rfl⟩
  have EG : Hid (G = w.heap.size) := eG
  have HW : Hid (g < G) := eG ▸ hgw
  clear h h1 hgw hc hd
  generalize FT = X at *
  go_enter Tryd.func26, Tryd.ntmps26
  go_upto_region 1 with fail
  rw [← eG] at hG ⊢
  clear eG
  generalize w.alloc (.cells #[.bool false, .slice none 0 0, .slice none 0 0] 25) = W0 at *
  go_wp2_with fail
  refine K.mono (fun e w3 he => ?_)
  obtain ⟨v1, rfl, s1, r1, g1⟩ := he
  obtain ⟨ao, cap, rfl, q2, q3, q4⟩ := s1
  obtain ⟨k, off, rfl, hkg, hlt, hcell⟩ := q4 (by simp)
  have c1 : w3.cell? ⟨k, off, none⟩ = some (.int .u8 (c.toNat : Int)) := hcell 0 (by simp)
  have hG3 : B3 G w3 := B3_gb hG g1 (fun e => by injection e with e; have := HW.out; omega)
  have e1 : (List.take 1 (c :: r)).length = 1 := by simp
  rw [e1] at q2 ⊢
  have hGl : G < w3.heap.size := Nat.lt_of_lt_of_le hG.hi g1.size
  have GL : Hid (G < w3.heap.size) := hGl
  clear K hcell q4 e1
  have R3 := r1
  have G3 : Hid (w.grownBy w3 (some g)) := gb_trans A.out g1
  clear hG hG3 g1 hGl hkg A r1
  go_wp2_with fail
  refine (KT.out _ R3).mono (fun e w4 he => ?_)
  obtain ⟨rfl, g4⟩ := he
  exact ⟨rfl, rfl, gb_trans G3.out g4⟩
set_option maxHeartbeats 1000000 in
set_option maxRecDepth 100000 in
theorem item_list_no (g : Nat) (c : UInt8) (r : List UInt8) (w : World) (h : Rd g (c :: r) w) (hc : 192 ≤ c.toNat) (KT : Hid (∀ w : World, Rd g r w → Calls Tryd.prog 36 #[.pointer (some ⟨g, 0, none⟩), .int .u8 ((c.toNat : Int) - 192)] w fun e w' => e = .panicked [{ v := FT, recovered := false }] ∧ w.grownBy w' (some g))) :
    Calls Tryd.prog 26 #[.pointer (some ⟨g, 0, none⟩)] w fun e w' => e = .panicked [{ v := FT, recovered := false }] ∧ w.grownBy w' (some g) := by
  have hgw := h.hi
  have h1 := Rd_below h ((Below.refl _ _).alloc (Nat.le_refl _) (.cells #[.bool false, .slice none 0 0, .slice none 0 0] 25))
  have K := take_ok g _ 1 _ h1 (by simp)
  have A : Hid (w.grownBy (w.alloc (.cells #[.bool false, .slice none 0 0, .slice none 0 0] 25)) (some g)) := World.grownBy_alloc _ _ _
  have hG := B3_new w
  have d0 : decide ((c.toNat : Int) < 128) = false := decide_eq_false (by omega)
  have d1 : decide ((c.toNat : Int) < 192) = false := decide_eq_false (by omega)
  have d2 : IntKind.u8.wrap ((c.toNat : Int) - 192) = (c.toNat : Int) - 192 := by rw [IntKind.wrap_u8]; have := c.toNat_lt; omega
  obtain ⟨G, eG⟩ : ∃ G, G = w.heap.size := ⟨_, rfl⟩
  have EG : Hid (G = w.heap.size) := eG
  have HW : Hid (g < G) := eG ▸ hgw
  clear h h1 hgw hc
  generalize FT = X at *
  go_enter Tryd.func26, Tryd.ntmps26
  go_upto_region 1 with fail
  rw [← eG] at hG ⊢
  clear eG
  generalize w.alloc (.cells #[.bool false, .slice none 0 0, .slice none 0 0] 25) = W0 at *
  go_wp2_with fail
  refine K.mono (fun e w3 he => ?_)
  obtain ⟨v1, rfl, s1, r1, g1⟩ := he
  obtain ⟨ao, cap, rfl, q2, q3, q4⟩ := s1
  obtain ⟨k, off, rfl, hkg, hlt, hcell⟩ := q4 (by simp)
  have c1 : w3.cell? ⟨k, off, none⟩ = some (.int .u8 (c.toNat : Int)) := hcell 0 (by simp)
  have hG3 : B3 G w3 := B3_gb hG g1 (fun e => by injection e with e; have := HW.out; omega)
  have e1 : (List.take 1 (c :: r)).length = 1 := by simp
  rw [e1] at q2 ⊢
  have hGl : G < w3.heap.size := Nat.lt_of_lt_of_le hG.hi g1.size
  have GL : Hid (G < w3.heap.size) := hGl
  clear K hcell q4 e1
  have R3 := r1
  have G3 : Hid (w.grownBy w3 (some g)) := gb_trans A.out g1
  clear hG hG3 g1 hGl hkg A r1
  go_wp2_with fail
  refine (KT.out _ R3).mono (fun e w4 he => ?_)
  obtain ⟨rfl, g4⟩ := he
  exact ⟨rfl, rfl, gb_trans G3.out g4⟩
set_option maxHeartbeats 1000000 in
set_option maxRecDepth 100000 in
theorem item_text (T R : List UInt8) (g : Nat) (c : UInt8) (r : List UInt8) (w : World) (h : Rd g (c :: r) w) (hc : 128 ≤ c.toNat) (hd : c.toNat < 192) (KT : Hid (∀ w : World, Rd g r w → Calls Tryd.prog 35 #[.pointer (some ⟨g, 0, none⟩), .int .u8 ((c.toNat : Int) - 128)] w fun e w' => ∃ v', e = .returned v' ∧ Tx w.heap.size T v' w' ∧ Rd g R w' ∧ w.grownBy w' (some g))) :
    Calls Tryd.prog 26 #[.pointer (some ⟨g, 0, none⟩)] w fun e w' => ∃ v, e = .returned (v3 v) ∧ Iv (w.heap.size ≤ ·) w' (.mk false T []) v ∧ Rd g R w' ∧ w.grownBy w' (some g) := by
  have hgw := h.hi
  have h1 := Rd_below h ((Below.refl _ _).alloc (Nat.le_refl _) (.cells #[.bool false, .slice none 0 0, .slice none 0 0] 25))
  have K := take_ok g _ 1 _ h1 (by simp)
  have A : Hid (w.grownBy (w.alloc (.cells #[.bool false, .slice none 0 0, .slice none 0 0] 25)) (some g)) := World.grownBy_alloc _ _ _
  have hG := B3_new w
  have d0 : decide ((c.toNat : Int) < 128) = false := decide_eq_false (by omega)
  have d1 : decide ((c.toNat : Int) < 192) = true := decide_eq_true (by omega)
  have d2 : IntKind.u8.wrap ((c.toNat : Int) - 128) = (c.toNat : Int) - 128 := by rw [IntKind.wrap_u8]; have := c.toNat_lt; omega
  obtain ⟨G, eG⟩ : ∃ G, G = w.heap.size := ⟨_, rfl⟩
  have EG : Hid (G = w.heap.size) := eG
  have HW : Hid (g < G) := eG ▸ hgw
  clear h h1 hgw hc hd
  go_enter Tryd.func26, Tryd.ntmps26
  go_upto_region 1 with fail
  rw [← eG] at hG ⊢
  clear eG
  generalize w.alloc (.cells #[.bool false, .slice none 0 0, .slice none 0 0] 25) = W0 at *
  go_wp2_with fail
  refine K.mono (fun e w3 he => ?_)
  obtain ⟨v1, rfl, s1, r1, g1⟩ := he
  obtain ⟨ao, cap, rfl, q2, q3, q4⟩ := s1
  obtain ⟨k, off, rfl, hkg, hlt, hcell⟩ := q4 (by simp)
  have c1 : w3.cell? ⟨k, off, none⟩ = some (.int .u8 (c.toNat : Int)) := hcell 0 (by simp)
  have hG3 : B3 G w3 := B3_gb hG g1 (fun e => by injection e with e; have := HW.out; omega)
  have e1 : (List.take 1 (c :: r)).length = 1 := by simp
  rw [e1] at q2 ⊢
  have hGl : G < w3.heap.size := Nat.lt_of_lt_of_le hG.hi g1.size
  have GL : Hid (G < w3.heap.size) := hGl
  clear K hcell q4 e1
  have R3 := r1
  have G3 : Hid (w.grownBy w3 (some g)) := gb_trans A.out g1
  have B3' : Hid (B3 G w3) := hG3
  clear hG hG3 g1 hGl hkg A r1
  go_wp2_with fail
  refine (KT.out _ R3).mono (fun e w4 he => ?_)
  obtain ⟨v4, rfl, t4, r4, g4⟩ := he
  have hG4 : B3 G w4 := B3_gb B3'.out g4 (fun e => by injection e with e; have := HW.out; omega)
  have T4 : Hid (Ty (w3.heap.size ≤ ·) T v4 w4) := Tx_ty t4
  have G4 : Hid (w.grownBy w4 (some g)) := gb_trans G3.out g4
  have R4 : Hid (Rd g R w4) := r4
  obtain ⟨a1, cp1, rfl, -⟩ := t4
  clear KT R3 g4 r4 B3' G3
  generalize T.length = n1 at *
  go_wp2_with (refine wpList_st3 rfl rfl rfl rfl hG4 ?_)
  intro w9 gb9 z0 z1 z2
  have G9 : Hid (w.grownBy w9 (some g)) := gb_new G4.out gb9 (by rw [EG.out]; exact Nat.le_refl _)
  have R9 : Hid (Rd g R w9) := Rd_up R4.out gb9 (fun j hj e => by injection e with e; have := HW.out; omega)
  have T9 : Hid (Ty (w.heap.size ≤ ·) T (.slice a1 n1 cp1) w9) := Ty_mono (Ty_gb T4.out gb9 (fun k hk e => by injection e with e; have := GL.out; omega)) (fun k hk _ => by have := GL.out; have := EG.out; omega)
  clear T4 G4 R4 gb9 hG4
  go_wp2_with fail
  exact bodyPost_ret (v := .agg #[.bool false, .slice a1 n1 cp1, .slice none 0 0]) (resI _ _ _ G 2 _ _ _ rfl rfl z0 z1 z2) rfl ⟨(.bool false, .slice a1 n1 cp1, .slice none 0 0), rfl, .mk _ _ _ _ _ [] T9.out rfl (Kx_nil _ _) (fun j hj => absurd hj (by simp)), R9.out, G9.out⟩
set_option maxHeartbeats 1000000 in
set_option maxRecDepth 100000 in
theorem item_list (ks : List It) (R : List UInt8) (g : Nat) (c : UInt8) (r : List UInt8) (w : World) (h : Rd g (c :: r) w) (hc : 192 ≤ c.toNat) (KT : Hid (∀ w : World, Rd g r w → Calls Tryd.prog 36 #[.pointer (some ⟨g, 0, none⟩), .int .u8 ((c.toNat : Int) - 192)] w fun e w' => ∃ vs kv, e = .returned kv ∧ Kx (w.heap.size ≤ ·) vs kv w' ∧ vs.length = ks.length ∧ (∀ j, j < ks.length → Iv (w.heap.size ≤ ·) w' (ks.getD j It.no) (vs.getD j n3)) ∧ Rd g R w' ∧ w.grownBy w' (some g))) :
    Calls Tryd.prog 26 #[.pointer (some ⟨g, 0, none⟩)] w fun e w' => ∃ v, e = .returned (v3 v) ∧ Iv (w.heap.size ≤ ·) w' (.mk true [] ks) v ∧ Rd g R w' ∧ w.grownBy w' (some g) := by
  have hgw := h.hi
  have h1 := Rd_below h ((Below.refl _ _).alloc (Nat.le_refl _) (.cells #[.bool false, .slice none 0 0, .slice none 0 0] 25))
  have K := take_ok g _ 1 _ h1 (by simp)
  have A : Hid (w.grownBy (w.alloc (.cells #[.bool false, .slice none 0 0, .slice none 0 0] 25)) (some g)) := World.grownBy_alloc _ _ _
  have hG := B3_new w
  have d0 : decide ((c.toNat : Int) < 128) = false := decide_eq_false (by omega)
  have d1 : decide ((c.toNat : Int) < 192) = false := decide_eq_false (by omega)
  have d2 : IntKind.u8.wrap ((c.toNat : Int) - 192) = (c.toNat : Int) - 192 := by rw [IntKind.wrap_u8]; have := c.toNat_lt; omega
  obtain ⟨G, eG⟩ : ∃ G, G = w.heap.size := ⟨_, rfl⟩
  have EG : Hid (G = w.heap.size) := eG
  have HW : Hid (g < G) := eG ▸ hgw
  clear h h1 hgw hc
  go_enter Tryd.func26, Tryd.ntmps26
  go_upto_region 1 with fail
  rw [← eG] at hG ⊢
  clear eG
  generalize w.alloc (.cells #[.bool false, .slice none 0 0, .slice none 0 0] 25) = W0 at *
  go_wp2_with fail
  refine K.mono (fun e w3 he => ?_)
  obtain ⟨v1, rfl, s1, r1, g1⟩ := he
  obtain ⟨ao, cap, rfl, q2, q3, q4⟩ := s1
  obtain ⟨k, off, rfl, hkg, hlt, hcell⟩ := q4 (by simp)
  have c1 : w3.cell? ⟨k, off, none⟩ = some (.int .u8 (c.toNat : Int)) := hcell 0 (by simp)
  have hG3 : B3 G w3 := B3_gb hG g1 (fun e => by injection e with e; have := HW.out; omega)
  have e1 : (List.take 1 (c :: r)).length = 1 := by simp
  rw [e1] at q2 ⊢
  have hGl : G < w3.heap.size := Nat.lt_of_lt_of_le hG.hi g1.size
  have GL : Hid (G < w3.heap.size) := hGl
  clear K hcell q4 e1
  have R3 := r1
  have G3 : Hid (w.grownBy w3 (some g)) := gb_trans A.out g1
  have B3' : Hid (B3 G w3) := hG3
  clear hG hG3 g1 hGl hkg A r1
  go_wp2_with fail
  refine (KT.out _ R3).mono (fun e w4 he => ?_)
  obtain ⟨vs, v4, rfl, t4, l4, i4, r4, g4⟩ := he
  have hG4 : B3 G w4 := B3_gb B3'.out g4 (fun e => by injection e with e; have := HW.out; omega)
  have T4 : Hid (Kx (w3.heap.size ≤ ·) vs v4 w4) := t4
  have L4 : Hid (vs.length = ks.length) := l4
  have I4 : Hid (∀ j, j < ks.length → Iv (w3.heap.size ≤ ·) w4 (ks.getD j It.no) (vs.getD j n3)) := i4
  have G4 : Hid (w.grownBy w4 (some g)) := gb_trans G3.out g4
  have R4 : Hid (Rd g R w4) := r4
  obtain ⟨a1, cp1, rfl, -⟩ := t4
  clear KT R3 g4 r4 B3' G3 l4 i4
  obtain ⟨n1, en1⟩ : ∃ n1, n1 = vs.length := ⟨_, rfl⟩
  rw [← en1] at T4 ⊢
  have LL : vs.length = ks.length := L4.out
  clear en1 L4
  go_wp2_with (refine wpList_st3 rfl rfl rfl rfl hG4 ?_)
  intro w9 gb9 z0 z1 z2
  have G9 : Hid (w.grownBy w9 (some g)) := gb_new G4.out gb9 (by rw [EG.out]; exact Nat.le_refl _)
  have R9 : Hid (Rd g R w9) := Rd_up R4.out gb9 (fun j hj e => by injection e with e; have := HW.out; omega)
  have T9 : Hid (Kx (w.heap.size ≤ ·) vs (.slice a1 n1 cp1) w9) := Kx_mono (Kx_gb T4.out gb9 (fun k hk e => by injection e with e; have := GL.out; omega)) (fun k hk _ => by have := GL.out; have := EG.out; omega)
  have I9 : Hid (∀ j, j < ks.length → Iv (w.heap.size ≤ ·) w9 (ks.getD j It.no) (vs.getD j n3)) := fun j hj => Iv_mono (Iv_gb (I4.out j hj) gb9 (fun k hk e => by injection e with e; have := GL.out; omega)) (fun k hk _ => by have := GL.out; have := EG.out; omega)
  clear T4 G4 R4 I4 gb9 hG4
  go_wp2_with fail
  exact bodyPost_ret (v := .agg #[.bool true, .slice none 0 0, .slice a1 n1 cp1]) (resI _ _ _ G 2 _ _ _ rfl rfl z0 z1 z2) rfl ⟨(.bool true, .slice none 0 0, .slice a1 n1 cp1), rfl, .mk _ _ _ _ _ vs (Ty_nil _ _) LL T9.out I9.out, R9.out, G9.out⟩
end Pk
end Go.Proofs.YtnbopclliokkcabDoor
/- pack's reader: items at every text. -/
namespace Go.Proofs.YtnbopclliokkcabDoor
namespace Pk
open Go.RowKit
theorem text_no (g s : Nat) (b : List UInt8) (hs : s < 64) (hb : b.length ≤ 4194304) (hr : rtx s b = none) (w : World) (h : Rd g b w) :
    Calls Tryd.prog 35 #[.pointer (some ⟨g, 0, none⟩), .int .u8 (s : Int)] w fun e w' => e = .panicked [{ v := FT, recovered := false }] ∧ w.grownBy w' (some g) := by
  unfold rtx at hr
  split at hr
  · exact text_no1 g s b hs hb ‹_› w h
  · split at hr
    · exact text_no2 g s _ _ b hs hb ‹_› ‹_› w h
    · split at hr
      · rename_i h1 h2 h3
        exact text_one g s _ _ b hs hb h1 (by omega) h3.1 h3.2 w h
      · cases hr
theorem text_ok (g s : Nat) (b T R : List UInt8) (hs : s < 64) (hb : b.length ≤ 4194304) (hr : rtx s b = some (T, R)) (w : World) (h : Rd g b w) :
    Calls Tryd.prog 35 #[.pointer (some ⟨g, 0, none⟩), .int .u8 (s : Int)] w fun e w' => ∃ v', e = .returned v' ∧ Tx w.heap.size T v' w' ∧ Rd g R w' ∧ w.grownBy w' (some g) := by
  unfold rtx at hr
  split at hr
  · cases hr
  · split at hr
    · cases hr
    · split at hr
      · cases hr
      · rename_i n k h1 h2 h3
        cases hr
        by_cases h4 : n = 1
        · exact text_high g s n k b hs hb h1 (by omega) h4 (fun h5 => h3 ⟨h4, h5⟩) w h
        · exact text_more g s n k b hs hb h1 (by omega) h4 w h
theorem item_next (N : Nat) (hN : N < 4194304) (IH : ItemC N) : ItemC (N + 1) := by
  intro b g w hb h
  cases b with
  | nil => exact (item_none g w h).mono fun e w' he => ⟨he.2, .inl ⟨rfl, he.1⟩⟩
  | cons c r =>
    simp only [List.length_cons] at hb
    have hl : r.length ≤ 4194304 := by omega
    have h8 := c.toNat_lt
    by_cases h1 : c.toNat < 128
    · refine (item_one g c r w h h1).mono fun e w' he => ?_
      obtain ⟨v, e1, e2, e3, e4⟩ := he
      refine ⟨e4, .inr ⟨_, _, v, ?_, e1, e2, e3⟩⟩
      simp only [ritem, rit, if_pos h1]
    · by_cases h2 : c.toNat < 192
      · have ec : ((c.toNat - 128 : Nat) : Int) = (c.toNat : Int) - 128 := by omega
        cases hr : rtx (c.toNat - 128) r with
        | none =>
          refine (item_text_no g c r w h (by omega) h2 (fun w' h' => ec ▸ text_no g _ r (by omega) hl hr w' h')).mono fun e w' he => ⟨he.2, .inl ⟨?_, he.1⟩⟩
          simp only [ritem, rit, if_neg h1, if_pos h2, hr, Option.map_none]
        | some q =>
          refine (item_text q.1 q.2 g c r w h (by omega) h2 (fun w' h' => ec ▸ text_ok g _ r q.1 q.2 (by omega) hl hr w' h')).mono fun e w' he => ?_
          obtain ⟨v, e1, e2, e3, e4⟩ := he
          refine ⟨e4, .inr ⟨_, _, v, ?_, e1, e2, e3⟩⟩
          simp only [ritem, rit, if_neg h1, if_pos h2, hr, Option.map_some]
      · have ec : ((c.toNat - 192 : Nat) : Int) = (c.toNat : Int) - 192 := by omega
        have h192 : 192 ≤ c.toNat := by omega
        have hs : c.toNat - 192 < 64 := by omega
        cases hr : rsz (c.toNat - 192) r with
        | none =>
          refine (item_list_no g c r w h h192 (fun w' h' => ec ▸ list_no1 g _ r hs hl hr w' h')).mono fun e w' he => ⟨he.2, .inl ⟨?_, he.1⟩⟩
          simp only [ritem, rit, if_neg h1, if_neg h2, hr]
        | some q =>
          obtain ⟨n, k⟩ := q
          by_cases h3 : (r.drop k).length < n
          · refine (item_list_no g c r w h h192 (fun w' h' => ec ▸ list_no2 g _ n k r hs hl hr h3 w' h')).mono fun e w' he => ⟨he.2, .inl ⟨?_, he.1⟩⟩
            simp only [ritem, rit, if_neg h1, if_neg h2, hr, if_pos h3]
          · have h4 : n ≤ (r.drop k).length := by omega
            have hrN : r.length ≤ N := by omega
            have hR : ritem (c :: r) = (rkids ((r.drop k).take n)).map fun ks => (.mk true [] ks, (r.drop k).drop n) := by
              simp only [ritem, rit, if_neg h1, if_neg h2, hr, if_neg h3]
            cases hq : rkids ((r.drop k).take n) with
            | none =>
              rw [hq] at hR
              refine (item_list_no g c r w h h192 (fun w' h' => ec ▸ (list_go N IH g _ n k r hs hl hrN hr h4 w' h').mono fun e w9 he => ?_)).mono fun e w' he => ⟨he.2, .inl ⟨hR, he.1⟩⟩
              obtain ⟨hg, ⟨_, e1⟩ | ⟨ks, _, _, e1, _⟩⟩ := he
              · exact ⟨e1, hg⟩
              · rw [hq] at e1; cases e1
            | some ks =>
              rw [hq] at hR
              refine (item_list ks ((r.drop k).drop n) g c r w h h192 (fun w' h' => ec ▸ (list_go N IH g _ n k r hs hl hrN hr h4 w' h').mono fun e w9 he => ?_)).mono fun e w' he => ?_
              · obtain ⟨hg, ⟨e1, _⟩ | ⟨ks', vs, kv, e1, e2, e3, e4, e5, e6⟩⟩ := he
                · rw [hq] at e1; cases e1
                · rw [hq] at e1
                  cases e1
                  exact ⟨vs, kv, e2, e3, e4, e5, e6, hg⟩
              · obtain ⟨v, e1, e2, e3, e4⟩ := he
                exact ⟨e4, .inr ⟨_, _, v, hR, e1, e2, e3⟩⟩
theorem item_all : ∀ N, N ≤ 4194304 → ItemC N
  | 0, _ => fun b g w hb h => by
    have e : b = [] := List.length_eq_zero_iff.1 (by omega)
    subst e
    exact (item_none g w h).mono fun e w' he => ⟨he.2, .inl ⟨rfl, he.1⟩⟩
  | N + 1, h => item_next N (by omega) (item_all N (by omega))
end Pk
end Go.Proofs.YtnbopclliokkcabDoor
/- pack.read: what is deferred. -/
namespace Go.Proofs.YtnbopclliokkcabDoor
namespace Pk
open Go.RowKit
set_option maxHeartbeats 1000000 in
set_option maxRecDepth 100000 in
theorem catch_idle (a b c : Addr) (w : World) :
    CallsD Tryd.prog 25 #[.pointer (some a), .pointer (some b), .pointer (some c)] .returning w fun e u' w' => e = .returned (.tuple #[]) ∧ u' = .returning ∧ w' = w := by
  refine callsD_of_wpS Tryd.func25 rfl fun c₀ cs hu => ?_
  apply wpS_seq
  apply wpS_region
  simp [wpOpsS, go_sem, recoverD, hu, Tryd.ntmps25, Exit.thenS]
  refine wpS_of_wp ?_
  go_wp2_with fail
  cases c₀
  simp_all [bodyPostS, results, Tryd.results25]
/-- A variable of one cell at block G. -/
structure B1 (G : Nat) (w : World) : Prop where
  hi : G < w.heap.size
  c : (w.cell? ⟨G, 0, none⟩).isSome = true
  f : w.frozen? ⟨G, 0, none⟩ = false
theorem B1_gb {G : Nat} {w w' : World} {r : Option Nat} (h : B1 G w) (hb : w.grownBy w' r) (hr : some G ≠ r) : B1 G w' := by
  have hbk : w'.heap[G]? = w.heap[G]? := hb.block G h.hi hr
  exact ⟨Nat.lt_of_lt_of_le h.hi hb.size, by rw [World.cell?_of_block (a := ⟨G, 0, none⟩) hbk]; exact h.c, (World.frozen?_of_block (a := ⟨G, 0, none⟩) hbk).trans h.f⟩
theorem B1_new (w : World) (v : Value) (ty : TypeId) : B1 w.heap.size (w.alloc (.cells #[v] ty)) := by
  have hn := heap_alloc_new w (.cells #[v] ty)
  exact ⟨by simp, by simp only [World.cell?, hn]; rfl, by simp only [World.frozen?, hn]; simp⟩
theorem B1_set {G : Nat} {w : World} (h : B1 G w) (v : Value) : B1 G (w.setCell ⟨G, 0, none⟩ v) ∧ (w.setCell ⟨G, 0, none⟩ v).cell? ⟨G, 0, none⟩ = some v := by
  obtain ⟨u, hu⟩ := Option.isSome_iff_exists.1 h.c
  have hs := World.cell?_setCell_same w ⟨G, 0, none⟩ v hu
  exact ⟨⟨by simpa using h.hi, by rw [hs]; rfl, by rw [World.frozen?_setCell]; exact h.f⟩, hs⟩
theorem cell_gb {G o : Nat} {w w' : World} {r : Option Nat} {v : Value} (h : w.cell? ⟨G, o, none⟩ = some v) (hb : w.grownBy w' r) (hr : some G ≠ r) : w'.cell? ⟨G, o, none⟩ = some v := hb.cell h hr
theorem wp_st3 {op : Oper} {a : Act} {w : World} {K : Act → World → Prop} {Q : Exit → Act → World → Prop} {x y : Operand} {G : Nat} {l : Bool} {a1 a2 : Option Addr} {n1 c1 n2 c2 : Nat} (ho : op.op = .store 25 x y)
    (hx : a.eval x = .pointer (some ⟨G, 0, none⟩)) (hy : a.eval y = .agg #[.bool l, .slice a1 n1 c1, .slice a2 n2 c2]) (hB : B3 G w)
    (h : ∀ w', w.grownBy w' (some G) → B3 G w' → w'.cell? ⟨G, 0, none⟩ = some (.bool l) → w'.cell? ⟨G, 1, none⟩ = some (.slice a1 n1 c1) → w'.cell? ⟨G, 2, none⟩ = some (.slice a2 n2 c2) → K (a.put op.dst undef) w') : op.wp Tryd.prog a w K Q := by
  have ht : w.there G 0 3 := fun j hj => by rw [Nat.zero_add]; exact ⟨hB.c j hj, hB.f j⟩
  have hs := World.rangeAt_setCells_same w G 0 [.bool l, .slice a1 n1 c1, .slice a2 n2 c2] ht
  refine wp_store_mid 25 x y ho G 0 #[.bool l, .slice a1 n1 c1, .slice a2 n2 c2] hx hy ht infoIa (all_oneCell_toArray (cs := [.bool l, .slice a1 n1 c1, .slice a2 n2 c2]) (fun v hv => by simp only [List.mem_cons, List.not_mem_nil, or_false] at hv; rcases hv with rfl | rfl | rfl <;> rfl)) ?_
  have h0 := hs 0 _ rfl
  have h1 := hs 1 _ rfl
  have h2 := hs 2 _ rfl
  have hgb := gb_sets G [.bool l, .slice a1 n1 c1, .slice a2 n2 c2] 0 w
  have hfz : ∀ o, (w.setCells G 0 [.bool l, .slice a1 n1 c1, .slice a2 n2 c2]).frozen? ⟨G, o, none⟩ = false := fun o => by
    simp only [World.setCells, World.frozen?_setCell]
    exact hB.f o
  refine h _ hgb ⟨Nat.lt_of_lt_of_le hB.hi hgb.size, fun o ho => ?_, hfz⟩ h0 h1 h2
  have : o = 0 ∨ o = 1 ∨ o = 2 := by omega
  rcases this with rfl | rfl | rfl
  · exact Option.isSome_iff_exists.2 ⟨_, h0⟩
  · exact Option.isSome_iff_exists.2 ⟨_, h1⟩
  · exact Option.isSome_iff_exists.2 ⟨_, h2⟩
/-- While a fault is caught. -/
structure CW (lo a b c f : Nat) (w wx : World) : Prop where
  bl : Below lo w wx
  ha : B3 a wx
  hb : B1 b wx
  hc : B1 c wx
  hf : wx.cell? ⟨f, 0, none⟩ = some (.int .i64 1)
theorem CW_gb {lo a b c f G : Nat} {w w1 w2 : World} (h : CW lo a b c f w w1) (hg : w1.grownBy w2 (some G)) (hlo : lo ≤ G) (hls : lo ≤ w1.heap.size) (h1 : G = a ∧ B3 a w2 ∨ G ≠ a) (h2 : G = b ∧ B1 b w2 ∨ G ≠ b) (h3 : G = c ∧ B1 c w2 ∨ G ≠ c) (h4 : G ≠ f) : CW lo a b c f w w2 := by
  refine ⟨h.bl.trans ⟨hg.os, hg.tape, hg.output, hg.size, fun j hj => hg.block j (by omega) (fun e => by injection e with e; omega)⟩, ?_, ?_, ?_, cell_gb h.hf hg (fun e => by injection e with e; omega)⟩
  · rcases h1 with h1 | h1
    · exact h1.2
    · exact B3_gb h.ha hg (fun e => by injection e with e; omega)
  · rcases h2 with h1 | h1
    · exact h1.2
    · exact B1_gb h.hb hg (fun e => by injection e with e; omega)
  · rcases h3 with h1 | h1
    · exact h1.2
    · exact B1_gb h.hc hg (fun e => by injection e with e; omega)
theorem CW_drew {lo a b c f : Nat} {w w1 : World} (h : CW lo a b c f w w1) : CW lo a b c f w w1.drew :=
  ⟨h.bl.trans ((Below.refl _ _).drew), B3_gb (r := none) h.ha (gb_below (Below.refl _ _).drew) (fun e => by cases e), B1_gb (r := none) h.hb (gb_below (Below.refl _ _).drew) (fun e => by cases e), B1_gb (r := none) h.hc (gb_below (Below.refl _ _).drew) (fun e => by cases e), cell_gb (r := none) h.hf (gb_below (Below.refl _ _).drew) (fun e => by cases e)⟩
def CI (lo a b c f : Nat) (w : World) (X : Value) (d : Nat → Bool) (x : Act) (wx : World) : Prop :=
  ∃ (u12 u13 u14 : Value), x = { tmps := #[.pointer (some ⟨a, 0, none⟩), .pointer (some ⟨b, 0, none⟩), .pointer (some ⟨c, 0, none⟩), undef, .pointer (some ⟨f, 0, none⟩), undef, X, undef, .bool false, .tuple #[.agg #[.int .i64 1], .bool true], .bool true, .agg #[.int .i64 1], u12, u13, u14], defers := [] } ∧ CW lo a b c f w wx ∧ (d 0 = true → u12 = .agg #[.bool false, .slice none 0 0, .slice none 0 0]) ∧ (d 1 = true → u13 = .pointer (some ⟨f, 0, none⟩)) ∧ (d 2 = true → u14 = .int .i64 1) ∧ (d 3 = true → wx.cell? ⟨a, 0, none⟩ = some (.bool false) ∧ wx.cell? ⟨a, 1, none⟩ = some (.slice none 0 0) ∧ wx.cell? ⟨a, 2, none⟩ = some (.slice none 0 0)) ∧ (d 4 = true → wx.cell? ⟨b, 0, none⟩ = some (.int .i64 0)) ∧ (d 5 = true → wx.cell? ⟨c, 0, none⟩ = some (.int .i64 1))
set_option maxHeartbeats 1000000 in
set_option maxRecDepth 100000 in
theorem catch_fault (lo a b c : Nat) (older : List PanicEntry) (w : World) (ha : B3 a w) (hb : B1 b w) (hc : B1 c w) (hla : lo ≤ a) (hlb : lo ≤ b) (hlc : lo ≤ c) (hab : a ≠ b) (hac : a ≠ c) (hbc : b ≠ c) :
    CallsD Tryd.prog 25 #[.pointer (some ⟨a, 0, none⟩), .pointer (some ⟨b, 0, none⟩), .pointer (some ⟨c, 0, none⟩)] (.panicking ({ v := FT, recovered := false } :: older)) w fun e u' w' => e = .returned (.tuple #[]) ∧ u' = .panicking ({ v := FT, recovered := true } :: older) ∧ Below lo w w' ∧ w'.cell? ⟨a, 0, none⟩ = some (.bool false) ∧ w'.cell? ⟨a, 1, none⟩ = some (.slice none 0 0) ∧ w'.cell? ⟨a, 2, none⟩ = some (.slice none 0 0) ∧ w'.cell? ⟨b, 0, none⟩ = some (.int .i64 0) ∧ w'.cell? ⟨c, 0, none⟩ = some (.int .i64 1) := by
  refine callsD_of_wpS Tryd.func25 rfl fun c₀ cs hu => ?_
  unfold FT at hu ⊢
  have hta : ∀ (W : World) (v : Value), (Instr.typeAssert (.iface 60 v) 20 60 true).run Tryd.prog W = .ok (.tuple #[v, .bool true]) W := fun W v => by kernel_rfl
  generalize hX : Value.iface 60 (.agg #[.int .i64 1]) = X at hu ⊢
  apply wpS_seq
  apply wpS_region
  simp [wpOpsS, go_sem, recoverD, hu, Tryd.ntmps25, Exit.thenS]
  have ef : (#[.pointer (some ⟨a, 0, none⟩), .pointer (some ⟨b, 0, none⟩), .pointer (some ⟨c, 0, none⟩)] : Array Value) ++ (Array.replicate 12 undef).setIfInBounds 3 X = #[.pointer (some ⟨a, 0, none⟩), .pointer (some ⟨b, 0, none⟩), .pointer (some ⟨c, 0, none⟩), undef, undef, undef, X, undef, undef, undef, undef, undef, undef, undef, undef] := rfl
  rw [ef]
  clear ef
  subst hX
  refine wpS_of_wp ?_
  have hbl : Below lo w (w.alloc (.cells #[.int .i64 1] 60)) := (Below.refl _ _).alloc (by have := ha.hi; omega) _
  have hgb := World.grownBy_alloc w (.cells #[.int .i64 1] 60) none
  have m0 : CW lo a b c w.heap.size w (w.alloc (.cells #[.int .i64 1] 60)) := ⟨hbl, B3_gb ha hgb (fun e => by cases e), B1_gb hb hgb (fun e => by cases e), B1_gb hc hgb (fun e => by cases e), by
    have hn := heap_alloc_new w (.cells #[.int .i64 1] 60)
    simp only [World.cell?, hn]; rfl⟩
  have LS : Hid (lo ≤ w.heap.size ∧ a ≠ w.heap.size ∧ b ≠ w.heap.size ∧ c ≠ w.heap.size) := by
    show _ ∧ _
    have := ha.hi; have := hb.hi; have := hc.hi
    omega
  have HD : Hid (lo ≤ a ∧ lo ≤ b ∧ lo ≤ c ∧ a ≠ b ∧ a ≠ c ∧ b ≠ c) := ⟨hla, hlb, hlc, hab, hac, hbc⟩
  clear ha hb hc hla hlb hlc hab hac hbc hbl hgb
  go_upto_region 7 with fail
  generalize w.alloc (.cells #[.int .i64 1] 60) = W1 at m0 ⊢
  generalize w.heap.size = f at *
  refine RI.wp_region_inv (CI lo a b c f w (.iface 60 (.agg #[.int .i64 1]))) (by kernel_rfl) (by kernel_rfl) ?_ ?_ ?_
  · exact ⟨undef, undef, undef, rfl, CW_drew m0, nofun, nofun, nofun, nofun, nofun, nofun⟩
  · clear m0 hta hu
    intro d x wx i hI hi hm
    obtain ⟨u12, u13, u14, rfl, hw, p0, p1, p2, p3, p4, p5⟩ := hI
    have hi' : i = 0 ∨ i = 1 ∨ i = 2 ∨ i = 3 ∨ i = 4 ∨ i = 5 := by simp at hi; omega
    have hd := hm.2
    clear hi hm
    obtain ⟨l1, l2, l3, l4, l5, l6⟩ := HD.out
    obtain ⟨f1, f2, f3, f4⟩ := LS.out
    have hsz := hw.ha.hi
    rcases hi' with rfl | rfl | rfl | rfl | rfl | rfl
    · refine RI.wpOp_plain rfl rfl ?_
      go_simp
      exact ⟨_, u13, u14, rfl, hw, fun _ => rfl, RI.keep (by decide) p1, RI.keep (by decide) p2, RI.keep (by decide) p3, RI.keep (by decide) p4, RI.keep (by decide) p5⟩
    · refine RI.wpOp_plain rfl rfl ?_
      go_simp
      exact ⟨u12, _, u14, rfl, hw, RI.keep (by decide) p0, fun _ => rfl, RI.keep (by decide) p2, RI.keep (by decide) p3, RI.keep (by decide) p4, RI.keep (by decide) p5⟩
    · have hd := hd _ rfl
      simp [Region.binds] at hd
      obtain rfl := p1 (by simp [hd])
      have c0 := hw.hf
      refine RI.wpOp_plain rfl rfl ?_
      go_simp
      exact ⟨u12, _, _, rfl, hw, RI.keep (by decide) p0, RI.keep (by decide) p1, fun _ => rfl, RI.keep (by decide) p3, RI.keep (by decide) p4, RI.keep (by decide) p5⟩
    · have hd := hd _ rfl
      simp [Region.binds] at hd
      obtain rfl := p0 (by simp [hd])
      refine RI.wpOp_plain rfl rfl (wp_st3 rfl rfl rfl hw.ha ?_)
      intro w' gb' b3 z0 z1 z2
      exact ⟨_, u13, u14, rfl, CW_gb hw gb' l1 (by omega) (.inl ⟨rfl, b3⟩) (.inr l4) (.inr l5) f2, RI.keep (by decide) p0, RI.keep (by decide) p1, RI.keep (by decide) p2, fun _ => ⟨z0, z1, z2⟩, RI.keep (by decide) (fun h => cell_gb (p4 h) gb' (fun e => by injection e with e; omega)), RI.keep (by decide) (fun h => cell_gb (p5 h) gb' (fun e => by injection e with e; omega))⟩
    · obtain ⟨v0, c0⟩ := Option.isSome_iff_exists.1 hw.hb.c
      have z := hw.hb.f
      have hs := B1_set hw.hb (.int .i64 0)
      have gb' := gb_set wx b 0 (.int .i64 0)
      refine RI.wpOp_plain rfl rfl ?_
      go_simp
      exact ⟨u12, u13, u14, rfl, CW_gb hw gb' l2 (by omega) (.inr (Ne.symm l4)) (.inl ⟨rfl, hs.1⟩) (.inr l6) f3, RI.keep (by decide) p0, RI.keep (by decide) p1, RI.keep (by decide) p2, RI.keep (by decide) (fun h => ⟨cell_gb (p3 h).1 gb' (fun e => by injection e with e; omega), cell_gb (p3 h).2.1 gb' (fun e => by injection e with e; omega), cell_gb (p3 h).2.2 gb' (fun e => by injection e with e; omega)⟩), fun _ => hs.2, RI.keep (by decide) (fun h => cell_gb (p5 h) gb' (fun e => by injection e with e; omega))⟩
    · have hd := hd _ rfl
      simp [Region.binds] at hd
      obtain rfl := p2 (by simp [hd])
      obtain ⟨v0, c0⟩ := Option.isSome_iff_exists.1 hw.hc.c
      have z := hw.hc.f
      have hs := B1_set hw.hc (.int .i64 1)
      have gb' := gb_set wx c 0 (.int .i64 1)
      refine RI.wpOp_plain rfl rfl ?_
      go_simp
      exact ⟨_, _, _, rfl, CW_gb hw gb' l3 (by omega) (.inr (Ne.symm l5)) (.inr (Ne.symm l6)) (.inl ⟨rfl, hs.1⟩) f4, fun _ => rfl, fun _ => rfl, fun _ => rfl, RI.keep (by decide) (fun h => ⟨cell_gb (p3 h).1 gb' (fun e => by injection e with e; omega), cell_gb (p3 h).2.1 gb' (fun e => by injection e with e; omega), cell_gb (p3 h).2.2 gb' (fun e => by injection e with e; omega)⟩), RI.keep (by decide) (fun h => cell_gb (p4 h) gb' (fun e => by injection e with e; omega)), fun _ => hs.2⟩
  · intro d x wx hI hd
    obtain ⟨u12, u13, u14, rfl, hw, p0, p1, p2, p3, p4, p5⟩ := hI
    have q3 := p3 (hd 3 (by decide))
    have q4 := p4 (hd 4 (by decide))
    have q5 := p5 (hd 5 (by decide))
    have q6 := hw.bl
    clear p0 p1 p2 p3 p4 p5 hd hw m0 HD LS hta hu
    simp only [Exit.inBlock]
    change bodyPostS Tryd.prog Tryd.f25 c₀ cs _ _ _ _ _
    simp [bodyPostS, results, Tryd.results25, q3, q4, q5, q6]
end Pk
end Go.Proofs.YtnbopclliokkcabDoor
/- pack.read. -/
namespace Go.Proofs.YtnbopclliokkcabDoor
namespace Pk
open Go.RowKit
theorem sx_of {b : List UInt8} {ao : Option Addr} {cap : Nat} {w : World} (h : Sl b (.slice ao b.length cap) w) (hc : (cap : Int) ≤ 9223372036854775807) : Sx w.heap.size b (.slice ao b.length cap) w := by
  obtain ⟨ao', cap', e, h2, h3⟩ := h
  injection e with e1 e2 e3
  subst e1 e3
  refine ⟨ao, cap, rfl, h2, hc, fun h0 => ?_⟩
  obtain ⟨k, off, x1, x2, x3⟩ := h3 h0
  exact ⟨k, off, x1, x2, x2, x3⟩
/-- What pack.read starts with: its results' variables, and the reader. -/
structure R0 (h : Nat) (b : List UInt8) (w W : World) : Prop where
  x : B3 h W
  y : B1 (h + 1) W
  z : B1 (h + 1 + 1) W
  r : Rd (h + 1 + 1 + 1) b W
  l : Below h w W
theorem r0_new (b : List UInt8) (ao : Option Addr) (cap : Nat) (w : World) (hc : (cap : Int) ≤ 9223372036854775807) (h : Sl b (.slice ao b.length cap) w) : R0 w.heap.size b w ((((w.alloc (.cells #[.bool false, .slice none 0 0, .slice none 0 0] 25)).alloc (.cells #[.int .i64 0] 3)).alloc (.cells #[.int .i64 0] 29)).alloc (.cells #[.slice ao b.length cap] 62)) := by
  have s1 : (w.alloc (.cells #[.bool false, .slice none 0 0, .slice none 0 0] 25)).heap.size = w.heap.size + 1 := by simp
  have x1 := B3_new w
  have b1 : Below w.heap.size w (w.alloc (.cells #[.bool false, .slice none 0 0, .slice none 0 0] 25)) := (Below.refl _ _).alloc (Nat.le_refl _) _
  generalize w.alloc (.cells #[.bool false, .slice none 0 0, .slice none 0 0] 25) = w1 at *
  have s2 : (w1.alloc (.cells #[.int .i64 0] 3)).heap.size = w1.heap.size + 1 := by simp
  have y2 := B1_new w1 (.int .i64 0) 3
  have g2 := World.grownBy_alloc w1 (.cells #[.int .i64 0] 3) none
  have b2 := b1.alloc (o := .cells #[.int .i64 0] 3) b1.size
  generalize w1.alloc (.cells #[.int .i64 0] 3) = w2 at *
  have s3 : (w2.alloc (.cells #[.int .i64 0] 29)).heap.size = w2.heap.size + 1 := by simp
  have z3 := B1_new w2 (.int .i64 0) 29
  have g3 := World.grownBy_alloc w2 (.cells #[.int .i64 0] 29) none
  have b3 := b2.alloc (o := .cells #[.int .i64 0] 29) b2.size
  generalize w2.alloc (.cells #[.int .i64 0] 29) = w3 at *
  have r4 := rd_new (sx_of (Sl_below h b3) hc) 62
  have g4 := World.grownBy_alloc w3 (.cells #[.slice ao b.length cap] 62) none
  have b4 := b3.alloc (o := .cells #[.slice ao b.length cap] 62) b3.size
  generalize w3.alloc (.cells #[.slice ao b.length cap] 62) = w4 at *
  rw [s3, s2, s1] at r4
  rw [s1] at y2
  rw [s2, s1] at z3
  exact ⟨B3_gb (B3_gb (B3_gb x1 g2 nofun) g3 nofun) g4 nofun, B1_gb (B1_gb y2 g3 nofun) g4 nofun, B1_gb z3 g4 nofun, r4, b4⟩
set_option maxHeartbeats 1000000 in
set_option maxRecDepth 100000 in
theorem read_no (b : List UInt8) (ao : Option Addr) (cap : Nat) (w : World) (hb : b.length ≤ 4194304) (hc : (cap : Int) ≤ 9223372036854775807) (h : Sl b (.slice ao b.length cap) w) (hr : ritem b = none) :
    Calls Tryd.prog 17 #[.slice ao b.length cap] w fun e w' => e = .returned (.tuple #[.agg #[.bool false, .slice none 0 0, .slice none 0 0], .int .i64 0, .int .i64 1]) ∧ Below w.heap.size w w' := by
  have hmf : ∀ (fn : Fn) (first cap : Array Value) (w : World), (Instr.makeFunc fn first cap).run Tryd.prog w = .ok (.func fn first cap) w := fun _ _ _ _ => rfl
  have r0 := r0_new b ao cap w hc h
  have KI : Hid (∀ (g : Nat) (w : World), Rd g b w → Calls Tryd.prog 26 #[.pointer (some ⟨g, 0, none⟩)] w fun e w' => w.grownBy w' (some g) ∧ e = .panicked [{ v := FT, recovered := false }]) := fun g w h => (item_all _ (Nat.le_refl _) b g w hb h).mono fun e w' he => by
    obtain ⟨h1, ⟨_, h2⟩ | ⟨t, r, v, h2, _⟩⟩ := he
    · exact ⟨h1, h2⟩
    · rw [hr] at h2; cases h2
  clear hb hc h hr
  go_enter_defers Tryd.func17, Tryd.ntmps17
  go_upto_region 3 with fail
  generalize ((((w.alloc (.cells #[.bool false, .slice none 0 0, .slice none 0 0] 25)).alloc (.cells #[.int .i64 0] 3)).alloc (.cells #[.int .i64 0] 29)).alloc (.cells #[.slice ao b.length cap] 62)) = W4 at r0 ⊢
  obtain ⟨h, eh⟩ : ∃ h, h = w.heap.size := ⟨_, rfl⟩
  have EH : Hid (h = w.heap.size) := eh
  rw [← eh] at r0 ⊢
  clear eh
  go_wp2_with fail
  refine (KI.out _ _ r0.r).mono (fun e w5 he => ?_)
  obtain ⟨g5, rfl⟩ := he
  have x5 := B3_gb r0.x g5 (fun e => by injection e with e; omega)
  have y5 := B1_gb r0.y g5 (fun e => by injection e with e; omega)
  have z5 := B1_gb r0.z g5 (fun e => by injection e with e; omega)
  have l5 : Below h w w5 := r0.l.trans ⟨g5.os, g5.tape, g5.output, g5.size, fun j hj => g5.block j (by have := r0.r.hi; omega) (fun e => by injection e with e; omega)⟩
  clear KI r0 g5
  refine leaves_cons (f := 25) (args := #[.pointer (some ⟨h, 0, none⟩), .pointer (some ⟨h + 1, 0, none⟩), .pointer (some ⟨h + 1 + 1, 0, none⟩)]) (by simp) (by simp [go_sem]) ?_
  refine (catch_fault h _ _ _ [] _ x5 y5 z5 (by omega) (by omega) (by omega) (by omega) (by omega) (by omega)).mono ?_
  rintro e u' w6 ⟨rfl, rfl, l6, q1, q2, q3, q4, q5⟩
  have L6 : Below h w w6 := l5.trans l6
  simp [Leaves, settle, results, Tryd.results17, go_sem, q1, q2, q3, q4, q5]
  rw [← EH.out]
  exact L6
/-- While pack.read lays its answer. -/
structure RA (h m cap2 : Nat) (ao2 : Option Addr) (t : It) (l : Bool) (a1 a2 : Option Addr) (n1 p1 n2 p2 : Nat) (w wx : World) : Prop where
  bl : Below h w wx
  x : B3 h wx
  y : B1 (h + 1) wx
  z : B1 (h + 1 + 1) wx
  c0 : wx.cell? ⟨h, 0, none⟩ = some (.bool l)
  c1 : wx.cell? ⟨h, 1, none⟩ = some (.slice a1 n1 p1)
  c2 : wx.cell? ⟨h, 2, none⟩ = some (.slice a2 n2 p2)
  r : wx.cell? ⟨h + 1 + 1 + 1, 0, none⟩ = some (.slice ao2 m cap2)
  i : Iv (h + 1 + 1 + 1 + 1 ≤ ·) wx t (.bool l, .slice a1 n1 p1, .slice a2 n2 p2)
theorem RA_drew {h m cap2 : Nat} {ao2 : Option Addr} {t : It} {l : Bool} {a1 a2 : Option Addr} {n1 p1 n2 p2 : Nat} {w w1 : World} (k : RA h m cap2 ao2 t l a1 a2 n1 p1 n2 p2 w w1) : RA h m cap2 ao2 t l a1 a2 n1 p1 n2 p2 w w1.drew := by
  have g : w1.grownBy w1.drew none := gb_below (Below.refl _ _).drew
  exact ⟨k.bl.trans (Below.refl _ _).drew, B3_gb k.x g nofun, B1_gb k.y g nofun, B1_gb k.z g nofun, cell_gb k.c0 g nofun, cell_gb k.c1 g nofun, cell_gb k.c2 g nofun, cell_gb k.r g nofun, Iv_gb k.i g (fun _ _ => nofun)⟩
theorem RA_x {h m cap2 : Nat} {ao2 : Option Addr} {t : It} {l : Bool} {a1 a2 : Option Addr} {n1 p1 n2 p2 : Nat} {w w1 w2 : World} (k : RA h m cap2 ao2 t l a1 a2 n1 p1 n2 p2 w w1) (g : w1.grownBy w2 (some h)) (b3 : B3 h w2) (z0 : w2.cell? ⟨h, 0, none⟩ = some (.bool l)) (z1 : w2.cell? ⟨h, 1, none⟩ = some (.slice a1 n1 p1)) (z2 : w2.cell? ⟨h, 2, none⟩ = some (.slice a2 n2 p2)) : RA h m cap2 ao2 t l a1 a2 n1 p1 n2 p2 w w2 :=
  ⟨k.bl.trans ⟨g.os, g.tape, g.output, g.size, fun j hj => g.block j (by have := k.x.hi; omega) (fun e => by injection e with e; omega)⟩, b3, B1_gb k.y g (fun e => by injection e with e; omega), B1_gb k.z g (fun e => by injection e with e; omega), z0, z1, z2, cell_gb k.r g (fun e => by injection e with e; omega), Iv_gb k.i g (fun j hj e => by injection e with e; omega)⟩
theorem RA_y {h m cap2 G : Nat} {ao2 : Option Addr} {t : It} {l : Bool} {a1 a2 : Option Addr} {n1 p1 n2 p2 : Nat} {w w1 w2 : World} (k : RA h m cap2 ao2 t l a1 a2 n1 p1 n2 p2 w w1) (g : w1.grownBy w2 (some G)) (hG : G = h + 1 ∨ G = h + 1 + 1) (hy : B1 (h + 1) w2) (hz : B1 (h + 1 + 1) w2) : RA h m cap2 ao2 t l a1 a2 n1 p1 n2 p2 w w2 :=
  ⟨k.bl.trans ⟨g.os, g.tape, g.output, g.size, fun j hj => g.block j (by have := k.x.hi; omega) (fun e => by injection e with e; omega)⟩, B3_gb k.x g (fun e => by injection e with e; omega), hy, hz, cell_gb k.c0 g (fun e => by injection e with e; omega), cell_gb k.c1 g (fun e => by injection e with e; omega), cell_gb k.c2 g (fun e => by injection e with e; omega), cell_gb k.r g (fun e => by injection e with e; omega), Iv_gb k.i g (fun j hj e => by injection e with e; omega)⟩
def CR (n cap h m cap2 : Nat) (ao ao2 : Option Addr) (t : It) (l : Bool) (a1 a2 : Option Addr) (n1 p1 n2 p2 : Nat) (w : World) (d : Nat → Bool) (x : Act) (wx : World) : Prop :=
  ∃ (u10 u11 u12 u13 u14 u15 u16 : Value), x = { tmps := #[.slice ao n cap, undef, .pointer (some ⟨h, 0, none⟩), .pointer (some ⟨h + 1, 0, none⟩), .pointer (some ⟨h + 1 + 1, 0, none⟩), .pointer (some ⟨h + 1 + 1 + 1, 0, none⟩), .func (.func 25) #[] #[.pointer (some ⟨h, 0, none⟩), .pointer (some ⟨h + 1, 0, none⟩), .pointer (some ⟨h + 1 + 1, 0, none⟩)], .slice ao n cap, .agg #[.slice ao n cap], .agg #[.bool l, .slice a1 n1 p1, .slice a2 n2 p2], u10, u11, u12, u13, u14, u15, u16], defers := [{ target := .fn (.func 25) #[.pointer (some ⟨h, 0, none⟩), .pointer (some ⟨h + 1, 0, none⟩), .pointer (some ⟨h + 1 + 1, 0, none⟩)], args := #[] }] } ∧ RA h m cap2 ao2 t l a1 a2 n1 p1 n2 p2 w wx ∧ (d 0 = true → u10 = .agg #[.bool l, .slice a1 n1 p1, .slice a2 n2 p2]) ∧ (d 1 = true → u11 = .slice ao n cap) ∧ (d 2 = true → u12 = .int .i64 (n : Int)) ∧ (d 3 = true → u13 = .pointer (some ⟨h + 1 + 1 + 1, 0, none⟩)) ∧ (d 4 = true → u14 = .slice ao2 m cap2) ∧ (d 5 = true → u15 = .int .i64 (m : Int)) ∧ (d 6 = true → u16 = .int .i64 ((n : Int) - m)) ∧ (d 8 = true → wx.cell? ⟨h + 1, 0, none⟩ = some (.int .i64 ((n : Int) - m))) ∧ (d 9 = true → wx.cell? ⟨h + 1 + 1, 0, none⟩ = some (.int .i64 0))
theorem wpList_st3b {ops : Array Oper} {rest : List Oper} {op : Oper} {a : Act} {w : World} {Q : Exit → Act → World → Prop} {x y : Operand} {G : Nat} {l : Bool} {a1 a2 : Option Addr} {n1 c1 n2 c2 : Nat} (hgd : op.guard = none) (ho : op.op = .store 25 x y)
    (hx : a.eval x = .pointer (some ⟨G, 0, none⟩)) (hy : a.eval y = .agg #[.bool l, .slice a1 n1 c1, .slice a2 n2 c2]) (hB : B3 G w)
    (h : ∀ w', w.grownBy w' (some G) → B3 G w' → w'.cell? ⟨G, 0, none⟩ = some (.bool l) → w'.cell? ⟨G, 1, none⟩ = some (.slice a1 n1 c1) → w'.cell? ⟨G, 2, none⟩ = some (.slice a2 n2 c2) → wpList Tryd.prog ops Q rest (a.put op.dst undef) w') : wpList Tryd.prog ops Q (op :: rest) a w :=
  wpList_plain hgd fun _ hK => wp_st3 ho hx hy hB (fun w' g b3 z0 z1 z2 => hK _ _ (h w' g b3 z0 z1 z2))
set_option maxHeartbeats 1000000 in
set_option maxRecDepth 100000 in
theorem read_ok (b : List UInt8) (ao : Option Addr) (cap : Nat) (w : World) (t : It) (r : List UInt8) (hb : b.length ≤ 4194304) (hc : (cap : Int) ≤ 9223372036854775807) (h : Sl b (.slice ao b.length cap) w) (hr : ritem b = some (t, r)) :
    Calls Tryd.prog 17 #[.slice ao b.length cap] w fun e w' => ∃ v, e = .returned (.tuple #[v3 v, .int .i64 ((b.length : Int) - r.length), .int .i64 0]) ∧ Iv (w.heap.size ≤ ·) w' t v ∧ Below w.heap.size w w' := by
  have hmf : ∀ (fn : Fn) (first cap : Array Value) (w : World), (Instr.makeFunc fn first cap).run Tryd.prog w = .ok (.func fn first cap) w := fun _ _ _ _ => rfl
  have r0 := r0_new b ao cap w hc h
  have KI : Hid (∀ (g : Nat) (w : World), Rd g b w → Calls Tryd.prog 26 #[.pointer (some ⟨g, 0, none⟩)] w fun e w' => w.grownBy w' (some g) ∧ ∃ v, e = .returned (v3 v) ∧ Iv (w.heap.size ≤ ·) w' t v ∧ Rd g r w') := fun g w h => (item_all _ (Nat.le_refl _) b g w hb h).mono fun e w' he => by
    obtain ⟨h1, ⟨h2, _⟩ | ⟨t', r', v, h2, h3, h4, h5⟩⟩ := he
    · rw [hr] at h2; cases h2
    · rw [hr] at h2
      cases h2
      exact ⟨h1, v, h3, h4, h5⟩
  have hsh := ritem_shorter hr
  have D0 : Hid (IntKind.i64.wrap ((b.length : Int) - (r.length : Int)) = (b.length : Int) - r.length) := by show _ = _; rw [IntKind.wrap_i64]; omega
  have D1 : Hid (wrap64 ((b.length : Int) - (r.length : Int)) = (b.length : Int) - r.length) := by show _ = _; unfold wrap64; omega
  clear hb hc h hr hsh
  go_enter_defers Tryd.func17, Tryd.ntmps17
  go_upto_region 3 with fail
  generalize ((((w.alloc (.cells #[.bool false, .slice none 0 0, .slice none 0 0] 25)).alloc (.cells #[.int .i64 0] 3)).alloc (.cells #[.int .i64 0] 29)).alloc (.cells #[.slice ao b.length cap] 62)) = W4 at r0 ⊢
  obtain ⟨h, eh⟩ : ∃ h, h = w.heap.size := ⟨_, rfl⟩
  have EH : Hid (h = w.heap.size) := eh
  rw [← eh] at r0 ⊢
  clear eh
  have hS : h + 1 + 1 + 1 + 1 ≤ W4.heap.size := by have := r0.r.hi; omega
  go_wp2_with fail
  refine (KI.out _ _ r0.r).mono (fun e w5 he => ?_)
  obtain ⟨g5, v, rfl, iv, rd⟩ := he
  have x5 := B3_gb r0.x g5 (fun e => by injection e with e; omega)
  have y5 := B1_gb r0.y g5 (fun e => by injection e with e; omega)
  have z5 := B1_gb r0.z g5 (fun e => by injection e with e; omega)
  have l5 : Below h w w5 := r0.l.trans ⟨g5.os, g5.tape, g5.output, g5.size, fun j hj => g5.block j (by have := r0.r.hi; omega) (fun e => by injection e with e; omega)⟩
  obtain ⟨vr, c9, ao2, cap2, rfl, -⟩ := rd.s
  obtain ⟨l, a1, n1, p1, a2, n2, p2, rfl⟩ := Iv_form iv
  have iv5 := Iv_mono (S' := (h + 1 + 1 + 1 + 1 ≤ ·)) iv (fun k hk _ => Nat.le_trans hS hk)
  clear KI r0 g5 rd iv hS
  generalize hm : r.length = m at *
  have EM : Hid (r.length = m) := hm
  clear hm
  generalize hn : b.length = n at *
  have EN : Hid (b.length = n) := hn
  clear hn
  dsimp only [v3]
  go_wp2_with (refine wpList_st3b rfl rfl rfl rfl x5 ?_)
  intro w6 g6 b6 z0 z1 z2
  have m6 : RA h m cap2 ao2 t l a1 a2 n1 p1 n2 p2 w w6 := by
    have hE : ∀ k, k ≠ h → (some k : Option Nat) ≠ some h := fun k hk e => hk (by injection e)
    exact ⟨l5.trans ⟨g6.os, g6.tape, g6.output, g6.size, fun j hj => g6.block j (by have := x5.hi; omega) (hE _ (by omega))⟩, b6, B1_gb y5 g6 (hE _ (by omega)), B1_gb z5 g6 (hE _ (by omega)), z0, z1, z2, cell_gb c9 g6 (hE _ (by omega)), Iv_gb iv5 g6 (fun k hk => hE k (by omega))⟩
  clear x5 y5 z5 l5 c9 iv5 g6 b6 z0 z1 z2
  go_upto_region 4 with fail
  refine RI.wp_region_inv (CR n cap h m cap2 ao ao2 t l a1 a2 n1 p1 n2 p2 w) (by kernel_rfl) (by kernel_rfl) ?_ ?_ ?_
  · exact ⟨undef, undef, undef, undef, undef, undef, undef, rfl, RA_drew m6, nofun, nofun, nofun, nofun, nofun, nofun, nofun, nofun, nofun⟩
  · clear m6 hmf
    intro d x wx i hI hi hm
    obtain ⟨u10, u11, u12, u13, u14, u15, u16, rfl, hw, q0, q1, q2, q3, q4, q5, q6, q8, q9⟩ := hI
    have hi' : i = 0 ∨ i = 1 ∨ i = 2 ∨ i = 3 ∨ i = 4 ∨ i = 5 ∨ i = 6 ∨ i = 7 ∨ i = 8 ∨ i = 9 := by simp at hi; omega
    have hd := hm.2
    clear hi hm
    rcases hi' with rfl | rfl | rfl | rfl | rfl | rfl | rfl | rfl | rfl | rfl
    · have e0 := hw.c0
      have e1 := hw.c1
      have e2 := hw.c2
      refine RI.wpOp_plain rfl rfl ?_
      go_simp
      exact ⟨_, u11, u12, u13, u14, u15, u16, rfl, hw, fun _ => rfl, RI.keep (by decide) q1, RI.keep (by decide) q2, RI.keep (by decide) q3, RI.keep (by decide) q4, RI.keep (by decide) q5, RI.keep (by decide) q6, RI.keep (by decide) q8, RI.keep (by decide) q9⟩
    · refine RI.wpOp_plain rfl rfl ?_
      go_simp
      exact ⟨u10, _, u12, u13, u14, u15, u16, rfl, hw, RI.keep (by decide) q0, fun _ => rfl, RI.keep (by decide) q2, RI.keep (by decide) q3, RI.keep (by decide) q4, RI.keep (by decide) q5, RI.keep (by decide) q6, RI.keep (by decide) q8, RI.keep (by decide) q9⟩
    · have hd := hd _ rfl
      simp [Region.binds] at hd
      obtain rfl := q1 (by simp [hd])
      refine RI.wpOp_plain rfl rfl ?_
      go_simp
      exact ⟨u10, _, _, u13, u14, u15, u16, rfl, hw, RI.keep (by decide) q0, RI.keep (by decide) q1, fun _ => rfl, RI.keep (by decide) q3, RI.keep (by decide) q4, RI.keep (by decide) q5, RI.keep (by decide) q6, RI.keep (by decide) q8, RI.keep (by decide) q9⟩
    · refine RI.wpOp_plain rfl rfl ?_
      go_simp
      exact ⟨u10, u11, u12, _, u14, u15, u16, rfl, hw, RI.keep (by decide) q0, RI.keep (by decide) q1, RI.keep (by decide) q2, fun _ => rfl, RI.keep (by decide) q4, RI.keep (by decide) q5, RI.keep (by decide) q6, RI.keep (by decide) q8, RI.keep (by decide) q9⟩
    · have hd := hd _ rfl
      simp [Region.binds] at hd
      obtain rfl := q3 (by simp [hd])
      have e0 := hw.r
      refine RI.wpOp_plain rfl rfl ?_
      go_simp
      exact ⟨u10, u11, u12, _, _, u15, u16, rfl, hw, RI.keep (by decide) q0, RI.keep (by decide) q1, RI.keep (by decide) q2, RI.keep (by decide) q3, fun _ => rfl, RI.keep (by decide) q5, RI.keep (by decide) q6, RI.keep (by decide) q8, RI.keep (by decide) q9⟩
    · have hd := hd _ rfl
      simp [Region.binds] at hd
      obtain rfl := q4 (by simp [hd])
      refine RI.wpOp_plain rfl rfl ?_
      go_simp
      exact ⟨u10, u11, u12, u13, _, _, u16, rfl, hw, RI.keep (by decide) q0, RI.keep (by decide) q1, RI.keep (by decide) q2, RI.keep (by decide) q3, RI.keep (by decide) q4, fun _ => rfl, RI.keep (by decide) q6, RI.keep (by decide) q8, RI.keep (by decide) q9⟩
    · have hd := hd _ rfl
      simp [Region.binds] at hd
      obtain rfl := q2 (by simp [hd])
      obtain rfl := q5 (by simp [hd])
      have e0 := D0.out
      have e1 := D1.out
      refine RI.wpOp_plain rfl rfl ?_
      go_simp
      exact ⟨u10, u11, _, u13, u14, _, _, rfl, hw, RI.keep (by decide) q0, RI.keep (by decide) q1, RI.keep (by decide) q2, RI.keep (by decide) q3, RI.keep (by decide) q4, RI.keep (by decide) q5, fun _ => rfl, RI.keep (by decide) q8, RI.keep (by decide) q9⟩
    · have hd := hd _ rfl
      simp [Region.binds] at hd
      obtain rfl := q0 (by simp [hd])
      refine RI.wpOp_plain rfl rfl (wp_st3 rfl rfl rfl hw.x ?_)
      intro w' gb' b3 z0 z1 z2
      exact ⟨_, u11, u12, u13, u14, u15, u16, rfl, RA_x hw gb' b3 z0 z1 z2, RI.keep (by decide) q0, RI.keep (by decide) q1, RI.keep (by decide) q2, RI.keep (by decide) q3, RI.keep (by decide) q4, RI.keep (by decide) q5, RI.keep (by decide) q6, RI.keep (by decide) (fun k => cell_gb (q8 k) gb' (fun e => by injection e with e; omega)), RI.keep (by decide) (fun k => cell_gb (q9 k) gb' (fun e => by injection e with e; omega))⟩
    · have hd := hd _ rfl
      simp [Region.binds] at hd
      obtain rfl := q6 (by simp [hd])
      clear hd
      obtain ⟨v0, e0⟩ := Option.isSome_iff_exists.1 hw.y.c
      have z := hw.y.f
      have hs := B1_set hw.y (.int .i64 ((n : Int) - m))
      have gb' := gb_set wx (h + 1) 0 (.int .i64 ((n : Int) - m))
      refine RI.wpOp_plain rfl rfl ?_
      go_simp
      exact ⟨u10, u11, u12, u13, u14, u15, _, rfl, RA_y hw gb' (.inl rfl) hs.1 (B1_gb hw.z gb' (fun e => by injection e with e; omega)), RI.keep (by decide) q0, RI.keep (by decide) q1, RI.keep (by decide) q2, RI.keep (by decide) q3, RI.keep (by decide) q4, RI.keep (by decide) q5, RI.keep (by decide) q6, fun _ => hs.2, RI.keep (by decide) (fun k => cell_gb (q9 k) gb' (fun e => by injection e with e; omega))⟩
    · obtain ⟨v0, e0⟩ := Option.isSome_iff_exists.1 hw.z.c
      have z := hw.z.f
      have hs := B1_set hw.z (.int .i64 0)
      have gb' := gb_set wx (h + 1 + 1) 0 (.int .i64 0)
      refine RI.wpOp_plain rfl rfl ?_
      go_simp
      exact ⟨u10, u11, u12, u13, u14, u15, u16, rfl, RA_y hw gb' (.inr rfl) (B1_gb hw.y gb' (fun e => by injection e with e; omega)) hs.1, RI.keep (by decide) q0, RI.keep (by decide) q1, RI.keep (by decide) q2, RI.keep (by decide) q3, RI.keep (by decide) q4, RI.keep (by decide) q5, RI.keep (by decide) q6, RI.keep (by decide) (fun k => cell_gb (q8 k) gb' (fun e => by injection e with e; omega)), fun _ => hs.2⟩
  · intro d x wx hI hd
    obtain ⟨u10, u11, u12, u13, u14, u15, u16, rfl, hw, q0, q1, q2, q3, q4, q5, q6, q8, q9⟩ := hI
    have e3 := q8 (hd 8 (by decide))
    have e4 := q9 (hd 9 (by decide))
    clear q0 q1 q2 q3 q4 q5 q6 q8 q9 hd m6
    go_wp2_with fail
    have f0 := hw.c0
    have f1 := hw.c1
    have f2 := hw.c2
    refine leaves_cons (f := 25) (args := #[.pointer (some ⟨h, 0, none⟩), .pointer (some ⟨h + 1, 0, none⟩), .pointer (some ⟨h + 1 + 1, 0, none⟩)]) (by simp) (by simp [go_sem]) ?_
    refine (catch_idle _ _ _ _).mono ?_
    rintro e u' w7 ⟨rfl, rfl, rfl⟩
    have fin : ∃ v : V3, (.returned (.tuple #[.agg #[.bool l, .slice a1 n1 p1, .slice a2 n2 p2], .int .i64 ((n : Int) - m), .int .i64 0]) : Ending) = .returned (.tuple #[v3 v, .int .i64 ((b.length : Int) - r.length), .int .i64 0]) ∧ Iv (w.heap.size ≤ ·) w7 t v ∧ Below w.heap.size w w7 := by
      refine ⟨(.bool l, .slice a1 n1 p1, .slice a2 n2 p2), by rw [EM.out, EN.out]; rfl, Iv_mono hw.i (fun k hk _ => by have := EH.out; omega), by rw [← EH.out]; exact hw.bl⟩
    clear EM EN EH D0 D1 hw
    generalize (b.length : Int) = bl at *
    generalize (r.length : Int) = rl at *
    simpa [Leaves, settle, results, Tryd.results17, go_sem, e3, e4, f0, f1, f2] using fin
end Pk
end Go.Proofs.YtnbopclliokkcabDoor
/- pack.Split. -/
namespace Go.Proofs.YtnbopclliokkcabDoor
namespace Pk
open Go.RowKit
/-- What Split answers. -/
def sp (b : List UInt8) : It × Int × Int :=
  match ritem b with
  | none => (It.no, 0, 1)
  | some (t, r) => (t, (b.length : Int) - r.length, 0)
theorem read_any (b : List UInt8) (ao : Option Addr) (cap : Nat) (w : World) (hb : b.length ≤ 4194304) (hc : (cap : Int) ≤ 9223372036854775807) (h : Sl b (.slice ao b.length cap) w) :
    Calls Tryd.prog 17 #[.slice ao b.length cap] w fun e w' => ∃ v, e = .returned (.tuple #[v3 v, .int .i64 (sp b).2.1, .int .i64 (sp b).2.2]) ∧ Iv (w.heap.size ≤ ·) w' (sp b).1 v ∧ Below w.heap.size w w' := by
  cases hr : ritem b with
  | none =>
    have e : sp b = (It.no, 0, 1) := by unfold sp; rw [hr]
    rw [e]
    exact (read_no b ao cap w hb hc h hr).mono fun e w' he => ⟨(.bool false, .slice none 0 0, .slice none 0 0), he.1, .mk _ _ _ _ _ [] (Ty_nil _ _) rfl (Kx_nil _ _) (fun j hj => absurd hj (by simp)), he.2⟩
  | some q =>
    have e : sp b = (q.1, (b.length : Int) - q.2.length, 0) := by unfold sp; rw [hr]
    rw [e]
    exact read_ok b ao cap w q.1 q.2 hb hc h hr
theorem resI3 (f : Func) (tm : Array Value) (W : World) (g s s1 s2 : Nat) (p q r x y : Value) (hf : f.results = #[.cell s 25, .tmp s1, .tmp s2]) (h : tm.getD s undef = .pointer (some ⟨g, 0, none⟩)) (h1 : tm.getD s1 undef = x) (h2 : tm.getD s2 undef = y) (c0 : W.cell? ⟨g, 0, none⟩ = some p) (c1 : W.cell? ⟨g, 1, none⟩ = some q) (c2 : W.cell? ⟨g, 2, none⟩ = some r) : (results f tm).run Tryd.prog W = .ok (.tuple #[.agg #[p, q, r], x, y]) W := by
  simp at h h1 h2
  simp [results, hf, go_sem, h, h1, h2, c0, c1, c2]
set_option maxHeartbeats 1000000 in
set_option maxRecDepth 100000 in
theorem split_any (b : List UInt8) (ao : Option Addr) (cap : Nat) (w : World) (hb : b.length ≤ 4194304) (hc : (cap : Int) ≤ 9223372036854775807) (h : Sl b (.slice ao b.length cap) w) :
    Calls Tryd.prog 9 #[.slice ao b.length cap] w fun e w' => ∃ v, e = .returned (.tuple #[v3 v, .int .i64 (sp b).2.1, .int .i64 (sp b).2.2]) ∧ Iv (w.heap.size ≤ ·) w' (sp b).1 v ∧ Below w.heap.size w w' := by
  have x0 := B3_new w
  have l0 : Below w.heap.size w (w.alloc (.cells #[.bool false, .slice none 0 0, .slice none 0 0] 25)) := (Below.refl _ _).alloc (Nat.le_refl _) _
  have KR : Hid (Calls Tryd.prog 17 #[.slice ao b.length cap] (w.alloc (.cells #[.bool false, .slice none 0 0, .slice none 0 0] 25)) fun e w' => ∃ v, e = .returned (.tuple #[v3 v, .int .i64 (sp b).2.1, .int .i64 (sp b).2.2]) ∧ Iv ((w.alloc (.cells #[.bool false, .slice none 0 0, .slice none 0 0] 25)).heap.size ≤ ·) w' (sp b).1 v ∧ Below (w.alloc (.cells #[.bool false, .slice none 0 0, .slice none 0 0] 25)).heap.size (w.alloc (.cells #[.bool false, .slice none 0 0, .slice none 0 0] 25)) w') := read_any b ao cap _ hb hc (Sl_below h l0)
  generalize (sp b).1 = t at *
  generalize (sp b).2.1 = k at *
  generalize (sp b).2.2 = c at *
  clear h hb hc
  generalize b.length = n at *
  go_enter Tryd.func9, Tryd.ntmps9
  go_upto_region 1 with fail
  generalize w.alloc (.cells #[.bool false, .slice none 0 0, .slice none 0 0] 25) = W0 at *
  obtain ⟨h, eh⟩ : ∃ h, h = w.heap.size := ⟨_, rfl⟩
  have EH : Hid (h = w.heap.size) := eh
  rw [← eh] at x0 l0 ⊢
  clear eh
  go_wp2_with fail
  refine KR.out.mono (fun e w1 he => ?_)
  obtain ⟨v, rfl, iv, b1⟩ := he
  have hx := x0.hi
  obtain ⟨l, a1, n1, p1, a2, n2, p2, rfl⟩ := Iv_form iv
  have x1 : B3 h w1 := B3_gb (r := none) x0 (gb_below b1) nofun
  have l1 : Below h w w1 := l0.trans (b1.mono (by omega))
  have iv1 := Iv_mono (S' := (h + 1 ≤ ·)) iv (fun k hk _ => Nat.le_trans hx hk)
  clear KR x0 l0 iv b1 hx
  dsimp only [v3]
  go_wp2_with (refine wpList_st3b rfl rfl rfl rfl x1 ?_)
  intro w2 g2 b2 z0 z1 z2
  have iv2 : Hid (Iv (w.heap.size ≤ ·) w2 t (.bool l, .slice a1 n1 p1, .slice a2 n2 p2)) := Iv_mono (Iv_gb iv1 g2 (fun j hj e => by injection e with e; omega)) (fun k hk _ => by have := EH.out; omega)
  have l2 : Hid (Below w.heap.size w w2) := by
    show Below _ _ _
    rw [← EH.out]
    exact l1.trans ⟨g2.os, g2.tape, g2.output, g2.size, fun j hj => g2.block j (by have := x1.hi; omega) (fun e => by injection e with e; omega)⟩
  clear iv1 l1 g2 b2 x1
  go_wp2_with fail
  exact bodyPost_ret (v := .tuple #[.agg #[.bool l, .slice a1 n1 p1, .slice a2 n2 p2], .int .i64 k, .int .i64 c]) (resI3 _ _ _ h 2 3 4 _ _ _ _ _ rfl rfl rfl rfl z0 z1 z2) rfl ⟨(.bool l, .slice a1 n1 p1, .slice a2 n2 p2), rfl, iv2.out, l2.out⟩
end Pk
end Go.Proofs.YtnbopclliokkcabDoor
/- pack.Decode. -/
namespace Go.Proofs.YtnbopclliokkcabDoor
namespace Pk
open Go.RowKit
/-- What Decode answers. -/
def dc (b : List UInt8) : It × Int :=
  match ritem b with
  | none => (It.no, 1)
  | some (t, r) => if r.length = 0 then (t, 0) else (It.no, 1)
theorem resI2 (f : Func) (tm : Array Value) (W : World) (g s s1 : Nat) (p q r x : Value) (hf : f.results = #[.cell s 25, .tmp s1]) (h : tm.getD s undef = .pointer (some ⟨g, 0, none⟩)) (h1 : tm.getD s1 undef = x) (c0 : W.cell? ⟨g, 0, none⟩ = some p) (c1 : W.cell? ⟨g, 1, none⟩ = some q) (c2 : W.cell? ⟨g, 2, none⟩ = some r) : (results f tm).run Tryd.prog W = .ok (.tuple #[.agg #[p, q, r], x]) W := by
  simp at h h1
  simp [results, hf, go_sem, h, h1, c0, c1, c2]
set_option maxHeartbeats 1000000 in
set_option maxRecDepth 100000 in
theorem decode_bad (t : It) (k c : Int) (n cap : Nat) (ao : Option Addr) (w : World) (hc : c = 1)
    (KR : Hid (Calls Tryd.prog 17 #[.slice ao n cap] (w.alloc (.cells #[.bool false, .slice none 0 0, .slice none 0 0] 25)) fun e w' => ∃ v, e = .returned (.tuple #[v3 v, .int .i64 k, .int .i64 c]) ∧ Iv ((w.alloc (.cells #[.bool false, .slice none 0 0, .slice none 0 0] 25)).heap.size ≤ ·) w' t v ∧ Below (w.alloc (.cells #[.bool false, .slice none 0 0, .slice none 0 0] 25)).heap.size (w.alloc (.cells #[.bool false, .slice none 0 0, .slice none 0 0] 25)) w')) :
    Calls Tryd.prog 10 #[.slice ao n cap] w fun e w' => ∃ v, e = .returned (.tuple #[v3 v, .int .i64 c]) ∧ Iv (w.heap.size ≤ ·) w' t v ∧ Below w.heap.size w w' := by
  have x0 := B3_new w
  have l0 : Below w.heap.size w (w.alloc (.cells #[.bool false, .slice none 0 0, .slice none 0 0] 25)) := (Below.refl _ _).alloc (Nat.le_refl _) _
  subst hc
  go_enter Tryd.func10, Tryd.ntmps10
  go_upto_region 1 with fail
  generalize w.alloc (.cells #[.bool false, .slice none 0 0, .slice none 0 0] 25) = W0 at *
  obtain ⟨h, eh⟩ : ∃ h, h = w.heap.size := ⟨_, rfl⟩
  have EH : Hid (h = w.heap.size) := eh
  rw [← eh] at x0 l0 ⊢
  clear eh
  go_wp2_with fail
  refine KR.out.mono (fun e w1 he => ?_)
  obtain ⟨v, rfl, iv, b1⟩ := he
  have hx := x0.hi
  obtain ⟨l, a1, n1, p1, a2, n2, p2, rfl⟩ := Iv_form iv
  have x1 : B3 h w1 := B3_gb (r := none) x0 (gb_below b1) nofun
  have l1 : Below h w w1 := l0.trans (b1.mono (by omega))
  have iv1 := Iv_mono (S' := (h + 1 ≤ ·)) iv (fun k hk _ => Nat.le_trans hx hk)
  clear KR x0 l0 iv b1 hx
  have hh : h < w1.heap.size := x1.hi
  have gA := World.grownBy_alloc w1 (.cells #[.bool l, .slice a1 n1 p1, .slice a2 n2 p2] 25) none
  have x2 : B3 h (w1.alloc (.cells #[.bool l, .slice a1 n1 p1, .slice a2 n2 p2] 25)) := B3_gb x1 gA nofun
  have hn := heap_alloc_new w1 (.cells #[.bool l, .slice a1 n1 p1, .slice a2 n2 p2] 25)
  have e0 : (w1.alloc (.cells #[.bool l, .slice a1 n1 p1, .slice a2 n2 p2] 25)).cell? ⟨w1.heap.size, 0, none⟩ = some (.bool l) := by simp only [World.cell?, hn]; rfl
  have e1 : (w1.alloc (.cells #[.bool l, .slice a1 n1 p1, .slice a2 n2 p2] 25)).cell? ⟨w1.heap.size, 1, none⟩ = some (.slice a1 n1 p1) := by simp only [World.cell?, hn]; rfl
  have e2 : (w1.alloc (.cells #[.bool l, .slice a1 n1 p1, .slice a2 n2 p2] 25)).cell? ⟨w1.heap.size, 2, none⟩ = some (.slice a2 n2 p2) := by simp only [World.cell?, hn]; rfl
  have iv2 := Iv_gb iv1 gA (fun _ _ => nofun)
  have l2 := l1.alloc (o := .cells #[.bool l, .slice a1 n1 p1, .slice a2 n2 p2] 25) (by omega)
  clear gA x1 hn iv1 l1
  dsimp only [v3]
  go_upto_region 2 with fail
  generalize w1.alloc (.cells #[.bool l, .slice a1 n1 p1, .slice a2 n2 p2] 25) = w2 at *
  generalize w1.heap.size = g4 at *
  go_wp2_with (refine wpList_st3b rfl rfl rfl rfl x2 ?_)
  intro w3 g3 b3 z0 z1 z2
  have iv3 : Hid (Iv (w.heap.size ≤ ·) w3 t (.bool l, .slice a1 n1 p1, .slice a2 n2 p2)) := Iv_mono (Iv_gb iv2 g3 (fun j hj e => by injection e with e; omega)) (fun k hk _ => by have := EH.out; omega)
  have l3 : Hid (Below w.heap.size w w3) := by
    show Below _ _ _
    rw [← EH.out]
    exact l2.trans ⟨g3.os, g3.tape, g3.output, g3.size, fun j hj => g3.block j (by have := x2.hi; omega) (fun e => by injection e with e; omega)⟩
  clear iv2 l2 g3 b3 x2 e0 e1 e2
  go_wp2_with fail
  exact bodyPost_ret (v := .tuple #[.agg #[.bool l, .slice a1 n1 p1, .slice a2 n2 p2], .int .i64 1]) (resI2 _ _ _ h 2 3 _ _ _ _ rfl rfl rfl z0 z1 z2) rfl ⟨(.bool l, .slice a1 n1 p1, .slice a2 n2 p2), rfl, iv3.out, l3.out⟩
set_option maxHeartbeats 1000000 in
set_option maxRecDepth 100000 in
theorem decode_all (t : It) (k c : Int) (n cap : Nat) (ao : Option Addr) (w : World) (hc : c = 0) (hk : Hid (decide (k < (n : Int)) = false))
    (KR : Hid (Calls Tryd.prog 17 #[.slice ao n cap] (w.alloc (.cells #[.bool false, .slice none 0 0, .slice none 0 0] 25)) fun e w' => ∃ v, e = .returned (.tuple #[v3 v, .int .i64 k, .int .i64 c]) ∧ Iv ((w.alloc (.cells #[.bool false, .slice none 0 0, .slice none 0 0] 25)).heap.size ≤ ·) w' t v ∧ Below (w.alloc (.cells #[.bool false, .slice none 0 0, .slice none 0 0] 25)).heap.size (w.alloc (.cells #[.bool false, .slice none 0 0, .slice none 0 0] 25)) w')) :
    Calls Tryd.prog 10 #[.slice ao n cap] w fun e w' => ∃ v, e = .returned (.tuple #[v3 v, .int .i64 c]) ∧ Iv (w.heap.size ≤ ·) w' t v ∧ Below w.heap.size w w' := by
  have x0 := B3_new w
  have l0 : Below w.heap.size w (w.alloc (.cells #[.bool false, .slice none 0 0, .slice none 0 0] 25)) := (Below.refl _ _).alloc (Nat.le_refl _) _
  subst hc
  have d0 := hk.out
  clear hk
  go_enter Tryd.func10, Tryd.ntmps10
  go_upto_region 1 with fail
  generalize w.alloc (.cells #[.bool false, .slice none 0 0, .slice none 0 0] 25) = W0 at *
  obtain ⟨h, eh⟩ : ∃ h, h = w.heap.size := ⟨_, rfl⟩
  have EH : Hid (h = w.heap.size) := eh
  rw [← eh] at x0 l0 ⊢
  clear eh
  go_wp2_with fail
  refine KR.out.mono (fun e w1 he => ?_)
  obtain ⟨v, rfl, iv, b1⟩ := he
  have hx := x0.hi
  obtain ⟨l, a1, n1, p1, a2, n2, p2, rfl⟩ := Iv_form iv
  have x1 : B3 h w1 := B3_gb (r := none) x0 (gb_below b1) nofun
  have l1 : Below h w w1 := l0.trans (b1.mono (by omega))
  have iv1 := Iv_mono (S' := (h + 1 ≤ ·)) iv (fun k hk _ => Nat.le_trans hx hk)
  clear KR x0 l0 iv b1 hx
  have hh : h < w1.heap.size := x1.hi
  have gA := World.grownBy_alloc w1 (.cells #[.bool l, .slice a1 n1 p1, .slice a2 n2 p2] 25) none
  have x2 : B3 h (w1.alloc (.cells #[.bool l, .slice a1 n1 p1, .slice a2 n2 p2] 25)) := B3_gb x1 gA nofun
  have hn := heap_alloc_new w1 (.cells #[.bool l, .slice a1 n1 p1, .slice a2 n2 p2] 25)
  have e0 : (w1.alloc (.cells #[.bool l, .slice a1 n1 p1, .slice a2 n2 p2] 25)).cell? ⟨w1.heap.size, 0, none⟩ = some (.bool l) := by simp only [World.cell?, hn]; rfl
  have e1 : (w1.alloc (.cells #[.bool l, .slice a1 n1 p1, .slice a2 n2 p2] 25)).cell? ⟨w1.heap.size, 1, none⟩ = some (.slice a1 n1 p1) := by simp only [World.cell?, hn]; rfl
  have e2 : (w1.alloc (.cells #[.bool l, .slice a1 n1 p1, .slice a2 n2 p2] 25)).cell? ⟨w1.heap.size, 2, none⟩ = some (.slice a2 n2 p2) := by simp only [World.cell?, hn]; rfl
  have iv2 := Iv_gb iv1 gA (fun _ _ => nofun)
  have l2 := l1.alloc (o := .cells #[.bool l, .slice a1 n1 p1, .slice a2 n2 p2] 25) (by omega)
  clear gA x1 hn iv1 l1
  dsimp only [v3]
  go_upto_region 2 with fail
  generalize w1.alloc (.cells #[.bool l, .slice a1 n1 p1, .slice a2 n2 p2] 25) = w2 at *
  generalize w1.heap.size = g4 at *
  go_wp2_with (refine wpList_st3b rfl rfl rfl rfl x2 ?_)
  intro w3 g3 b3 z0 z1 z2
  have iv3 : Hid (Iv (w.heap.size ≤ ·) w3 t (.bool l, .slice a1 n1 p1, .slice a2 n2 p2)) := Iv_mono (Iv_gb iv2 g3 (fun j hj e => by injection e with e; omega)) (fun k hk _ => by have := EH.out; omega)
  have l3 : Hid (Below w.heap.size w w3) := by
    show Below _ _ _
    rw [← EH.out]
    exact l2.trans ⟨g3.os, g3.tape, g3.output, g3.size, fun j hj => g3.block j (by have := x2.hi; omega) (fun e => by injection e with e; omega)⟩
  clear iv2 l2 g3 b3 x2 e0 e1 e2
  go_wp2_with fail
  exact bodyPost_ret (v := .tuple #[.agg #[.bool l, .slice a1 n1 p1, .slice a2 n2 p2], .int .i64 0]) (resI2 _ _ _ h 2 3 _ _ _ _ rfl rfl rfl z0 z1 z2) rfl ⟨(.bool l, .slice a1 n1 p1, .slice a2 n2 p2), rfl, iv3.out, l3.out⟩
set_option maxHeartbeats 1000000 in
set_option maxRecDepth 100000 in
theorem decode_part (t : It) (k c : Int) (n cap : Nat) (ao : Option Addr) (w : World) (hc : c = 0) (hk : Hid (decide (k < (n : Int)) = true))
    (KR : Hid (Calls Tryd.prog 17 #[.slice ao n cap] (w.alloc (.cells #[.bool false, .slice none 0 0, .slice none 0 0] 25)) fun e w' => ∃ v, e = .returned (.tuple #[v3 v, .int .i64 k, .int .i64 c]) ∧ Iv ((w.alloc (.cells #[.bool false, .slice none 0 0, .slice none 0 0] 25)).heap.size ≤ ·) w' t v ∧ Below (w.alloc (.cells #[.bool false, .slice none 0 0, .slice none 0 0] 25)).heap.size (w.alloc (.cells #[.bool false, .slice none 0 0, .slice none 0 0] 25)) w')) :
    Calls Tryd.prog 10 #[.slice ao n cap] w fun e w' => ∃ v, e = .returned (.tuple #[v3 v, .int .i64 1]) ∧ Iv (w.heap.size ≤ ·) w' It.no v ∧ Below w.heap.size w w' := by
  have x0 := B3_new w
  have l0 : Below w.heap.size w (w.alloc (.cells #[.bool false, .slice none 0 0, .slice none 0 0] 25)) := (Below.refl _ _).alloc (Nat.le_refl _) _
  subst hc
  have d0 := hk.out
  clear hk
  go_enter Tryd.func10, Tryd.ntmps10
  go_upto_region 1 with fail
  generalize w.alloc (.cells #[.bool false, .slice none 0 0, .slice none 0 0] 25) = W0 at *
  obtain ⟨h, eh⟩ : ∃ h, h = w.heap.size := ⟨_, rfl⟩
  have EH : Hid (h = w.heap.size) := eh
  rw [← eh] at x0 l0 ⊢
  clear eh
  go_wp2_with fail
  refine KR.out.mono (fun e w1 he => ?_)
  obtain ⟨v, rfl, iv, b1⟩ := he
  have hx := x0.hi
  obtain ⟨l, a1, n1, p1, a2, n2, p2, rfl⟩ := Iv_form iv
  have x1 : B3 h w1 := B3_gb (r := none) x0 (gb_below b1) nofun
  have l1 : Below h w w1 := l0.trans (b1.mono (by omega))
  have iv1 := Iv_mono (S' := (h + 1 ≤ ·)) iv (fun k hk _ => Nat.le_trans hx hk)
  clear KR x0 l0 iv b1 hx
  have hh : h < w1.heap.size := x1.hi
  have gA := World.grownBy_alloc w1 (.cells #[.bool l, .slice a1 n1 p1, .slice a2 n2 p2] 25) none
  have x2 : B3 h (w1.alloc (.cells #[.bool l, .slice a1 n1 p1, .slice a2 n2 p2] 25)) := B3_gb x1 gA nofun
  have hn := heap_alloc_new w1 (.cells #[.bool l, .slice a1 n1 p1, .slice a2 n2 p2] 25)
  have e0 : (w1.alloc (.cells #[.bool l, .slice a1 n1 p1, .slice a2 n2 p2] 25)).cell? ⟨w1.heap.size, 0, none⟩ = some (.bool l) := by simp only [World.cell?, hn]; rfl
  have e1 : (w1.alloc (.cells #[.bool l, .slice a1 n1 p1, .slice a2 n2 p2] 25)).cell? ⟨w1.heap.size, 1, none⟩ = some (.slice a1 n1 p1) := by simp only [World.cell?, hn]; rfl
  have e2 : (w1.alloc (.cells #[.bool l, .slice a1 n1 p1, .slice a2 n2 p2] 25)).cell? ⟨w1.heap.size, 2, none⟩ = some (.slice a2 n2 p2) := by simp only [World.cell?, hn]; rfl
  have iv2 := Iv_gb iv1 gA (fun _ _ => nofun)
  have l2 := l1.alloc (o := .cells #[.bool l, .slice a1 n1 p1, .slice a2 n2 p2] 25) (by omega)
  clear gA x1 hn iv1 l1
  dsimp only [v3]
  go_upto_region 2 with fail
  generalize w1.alloc (.cells #[.bool l, .slice a1 n1 p1, .slice a2 n2 p2] 25) = w2 at *
  generalize w1.heap.size = g4 at *
  go_wp2_with (refine wpList_st3b rfl rfl rfl rfl x2 ?_)
  intro w3 g3 b3 z0 z1 z2
  have l3 : Hid (Below w.heap.size w w3) := by
    show Below _ _ _
    rw [← EH.out]
    exact l2.trans ⟨g3.os, g3.tape, g3.output, g3.size, fun j hj => g3.block j (by have := x2.hi; omega) (fun e => by injection e with e; omega)⟩
  clear iv2 l2 g3 b3 x2 e0 e1 e2
  go_wp2_with fail
  exact bodyPost_ret (v := .tuple #[.agg #[.bool false, .slice none 0 0, .slice none 0 0], .int .i64 1]) (resI2 _ _ _ h 2 3 _ _ _ _ rfl rfl rfl z0 z1 z2) rfl ⟨(.bool false, .slice none 0 0, .slice none 0 0), rfl, .mk _ _ _ _ _ [] (Ty_nil _ _) rfl (Kx_nil _ _) (fun j hj => absurd hj (by simp)), l3.out⟩
theorem decode_any (b : List UInt8) (ao : Option Addr) (cap : Nat) (w : World) (hb : b.length ≤ 4194304) (hc : (cap : Int) ≤ 9223372036854775807) (h : Sl b (.slice ao b.length cap) w) :
    Calls Tryd.prog 10 #[.slice ao b.length cap] w fun e w' => ∃ v, e = .returned (.tuple #[v3 v, .int .i64 (dc b).2]) ∧ Iv (w.heap.size ≤ ·) w' (dc b).1 v ∧ Below w.heap.size w w' := by
  have l0 : Below w.heap.size w (w.alloc (.cells #[.bool false, .slice none 0 0, .slice none 0 0] 25)) := (Below.refl _ _).alloc (Nat.le_refl _) _
  have KR := read_any b ao cap _ hb hc (Sl_below h l0)
  cases hr : ritem b with
  | none =>
    have e1 : sp b = (It.no, 0, 1) := by unfold sp; rw [hr]
    have e2 : dc b = (It.no, 1) := by unfold dc; rw [hr]
    rw [e1] at KR
    rw [e2]
    exact decode_bad _ _ _ _ cap ao w rfl KR
  | some q =>
    have e1 : sp b = (q.1, (b.length : Int) - q.2.length, 0) := by unfold sp; rw [hr]
    rw [e1] at KR
    by_cases h0 : q.2.length = 0
    · have e2 : dc b = (q.1, 0) := by unfold dc; rw [hr]; exact if_pos h0
      rw [e2]
      exact decode_all _ _ _ _ cap ao w rfl (decide_eq_false (by simp only; omega)) KR
    · have e2 : dc b = (It.no, 1) := by unfold dc; rw [hr]; exact if_neg h0
      rw [e2]
      exact decode_part _ _ _ _ cap ao w rfl (decide_eq_true (by simp only; omega)) KR
end Pk
end Go.Proofs.YtnbopclliokkcabDoor
/- lampbearerref.Bare, of what is bare. -/
namespace Go.Proofs.YtnbopclliokkcabDoor
namespace Pk
open Go.RowKit
/-- An item that has only what means something. -/
inductive Br : It → Prop where
  | text (t : List UInt8) : Br (.mk false t [])
  | list (ks : List It) (h : ∀ j, j < ks.length → Br (ks.getD j It.no)) : Br (.mk true [] ks)
theorem msr_up (k n : Nat) (h : k < n) : ((n : Int) - intOf (.int .i64 ((k + 1 : Nat) : Int))).toNat < ((n : Int) - intOf (.int .i64 (k : Int))).toNat := by
  simp only [intOf]
  omega
/-- How great an item may be. -/
inductive Sm : It → Prop where
  | mk (l : Bool) (t : List UInt8) (ks : List It) (ht : t.length ≤ 4194304) (hk : ks.length ≤ 4194304) (h : ∀ j, j < ks.length → Sm (ks.getD j It.no)) : Sm (.mk l t ks)
end Pk
end Go.Proofs.YtnbopclliokkcabDoor
/- pack: what is read is bare, and not too great. -/
namespace Go.Proofs.YtnbopclliokkcabDoor
namespace Pk
open Go.RowKit
def BS (t : It) : Prop := Br t ∧ Sm t
theorem bs_text (t : List UInt8) (h : t.length ≤ 4194304) : BS (.mk false t []) := ⟨.text t, .mk _ _ _ h (by simp) (fun j hj => absurd hj (by simp))⟩
theorem bs_list (ks : List It) (h : ks.length ≤ 4194304) (hi : ∀ j, j < ks.length → BS (ks.getD j It.no)) : BS (.mk true [] ks) := ⟨.list ks (fun j hj => (hi j hj).1), .mk _ _ _ (by simp) h (fun j hj => (hi j hj).2)⟩
theorem bs_no : BS It.no := bs_text [] (by simp)
theorem rtx_len {s : Nat} {b t r : List UInt8} (h : rtx s b = some (t, r)) : t.length ≤ b.length := by
  unfold rtx at h
  split at h
  · cases h
  · split at h
    · cases h
    · split at h
      · cases h
      · cases h
        simp only [List.length_take, List.length_drop]
        omega
theorem kids_bs (N : Nat) (hP : ∀ b : List UInt8, b.length ≤ N → ∀ t r, ritem b = some (t, r) → BS t) : ∀ (M : Nat) (b : List UInt8), b.length ≤ M → M ≤ N → ∀ ks, rkids b = some ks → ks.length ≤ b.length ∧ ∀ j, j < ks.length → BS (ks.getD j It.no)
  | 0, b, h, _, ks, e => by
    have e0 : b = [] := List.length_eq_zero_iff.1 (by omega)
    subst e0
    rw [rkids_nil] at e
    cases e
    exact ⟨Nat.le_refl _, fun j hj => absurd hj (by simp)⟩
  | M + 1, [], _, _, ks, e => by
    rw [rkids_nil] at e
    cases e
    exact ⟨Nat.le_refl _, fun j hj => absurd hj (by simp)⟩
  | M + 1, c :: r, h, hM, ks, e => by
    cases hr : ritem (c :: r) with
    | none => rw [rkids_none (by simp) hr] at e; cases e
    | some q =>
      rw [rkids_some (t := q.1) (r := q.2) (by simp) hr] at e
      obtain ⟨ks', h1, rfl⟩ := Option.map_eq_some_iff.1 e
      have hs := ritem_shorter (t := q.1) (r := q.2) hr
      obtain ⟨i1, i2⟩ := kids_bs N hP M q.2 (by omega) (by omega) ks' h1
      refine ⟨by simp only [List.length_cons] at hs ⊢; omega, fun j hj => ?_⟩
      cases j with
      | zero => exact hP (c :: r) (by omega) q.1 q.2 hr
      | succ j => exact i2 j (by simpa using hj)
theorem item_bs : ∀ (N : Nat), N ≤ 4194304 → ∀ b : List UInt8, b.length ≤ N → ∀ t r, ritem b = some (t, r) → BS t
  | 0, _, b, h, t, r, e => by
    have e0 : b = [] := List.length_eq_zero_iff.1 (by omega)
    subst e0
    cases e
  | N + 1, hN, [], _, t, r, e => by cases e
  | N + 1, hN, c :: r, h, t, r', e => by
    simp only [List.length_cons] at h
    unfold ritem rit at e
    simp only at e
    split at e
    · cases e
      exact bs_text _ (by simp)
    · split at e
      · obtain ⟨q, h1, h2⟩ := Option.map_eq_some_iff.1 e
        cases h2
        have := rtx_len (t := q.1) (r := q.2) h1
        exact bs_text _ (by omega)
      · split at e
        · cases e
        · split at e
          · cases e
          · obtain ⟨ks, h1, h2⟩ := Option.map_eq_some_iff.1 e
            cases h2
            obtain ⟨i1, i2⟩ := kids_bs N (item_bs N (by omega)) N _ (by simp only [List.length_take, List.length_drop]; omega) (Nat.le_refl _) ks h1
            refine bs_list ks ?_ i2
            simp only [List.length_take, List.length_drop] at i1
            omega
theorem sp_bs (b : List UInt8) (h : b.length ≤ 4194304) : BS (sp b).1 := by
  unfold sp
  split
  · exact bs_no
  · exact item_bs _ h b (Nat.le_refl _) _ _ ‹_›
theorem dc_bs (b : List UInt8) (h : b.length ≤ 4194304) : BS (dc b).1 := by
  unfold dc
  split
  · exact bs_no
  · split
    · exact item_bs _ h b (Nat.le_refl _) _ _ ‹_›
    · exact bs_no
end Pk
end Go.Proofs.YtnbopclliokkcabDoor
/- The one form of an item, as a list of bytes; it is read as it was written. -/
namespace Go.Proofs.YtnbopclliokkcabDoor
namespace Pk
open Go.RowKit
/-- A head. -/
def hdr (mark n : Nat) : List UInt8 := if n < 48 then [UInt8.ofNat (mark + n)] else UInt8.ofNat (mark + 47 + (nu n).length) :: nu n
mutual
/-- The form of an item. -/
def enc : It → List UInt8
  | .mk false t _ => if t.length = 1 ∧ Sp.bz t 0 < 128 then t else hdr 128 t.length ++ t
  | .mk true _ ks => hdr 192 (encs ks).length ++ encs ks
/-- The forms of items, one behind the other. -/
def encs : List It → List UInt8
  | [] => []
  | k :: r => enc k ++ encs r
end
mutual
/-- What means something of an item. -/
def bar : It → It
  | .mk false t _ => .mk false t []
  | .mk true _ ks => .mk true [] (bars ks)
def bars : List It → List It
  | [] => []
  | k :: r => bar k :: bars r
end
theorem nu_8 (n : Nat) (h : n < 18446744073709551616) : (nu n).length ≤ 8 := by
  rcases Nat.lt_or_ge 8 (nu n).length with h1 | h1
  · exfalso
    have k := cb_low (nu n) (nu_cb n) (by omega)
    have hv : vb 0 (nu n) = n := nu_vb n (Nat.lt_trans h (by decide))
    rw [hv] at k
    have k2 : 256 ^ 8 ≤ 256 ^ ((nu n).length - 1) := Nat.pow_le_pow_right (by decide) (by omega)
    have k3 : (256 : Nat) ^ 8 = 18446744073709551616 := by decide
    omega
  · exact h1
theorem nu_pos (n : Nat) (h0 : 0 < n) (h : n < 18446744073709551616) : 0 < (nu n).length := by
  rcases Nat.eq_zero_or_pos (nu n).length with h1 | h1
  · exfalso
    have e : nu n = [] := List.length_eq_zero_iff.1 h1
    have hv : vb 0 (nu n) = n := nu_vb n (Nat.lt_trans h (by decide))
    rw [e] at hv
    have : vb 0 [] = 0 := rfl
    omega
  · exact h1
theorem u8_of (n : Nat) (h : n < 256) : (UInt8.ofNat n).toNat = n := by rw [UInt8.toNat_ofNat']; omega
/-- A size is read behind its head's first byte as it was written. -/
theorem rsz_hdr (n : Nat) (r : List UInt8) (h : n < 18446744073709551616) (hr : n ≤ r.length) : ∃ s k, s < 64 ∧ (∀ mark, mark + 64 ≤ 256 → hdr mark n ++ r = UInt8.ofNat (mark + s) :: ((hdr mark n).drop 1 ++ r) ∧ rsz s ((hdr mark n).drop 1 ++ r) = some (n, k) ∧ ((hdr mark n).drop 1 ++ r).drop k = r) := by
  by_cases h48 : n < 48
  · refine ⟨n, 0, by omega, fun mark _ => ?_⟩
    have e : hdr mark n = [UInt8.ofNat (mark + n)] := by unfold hdr; rw [if_pos h48]
    rw [e]
    refine ⟨rfl, ?_, rfl⟩
    unfold rsz
    rw [if_pos h48]
  · have l8 := nu_8 n h
    have l0 := nu_pos n (by omega) h
    have hv : vb 0 (nu n) = n := nu_vb n (Nat.lt_trans h (by decide))
    refine ⟨47 + (nu n).length, (nu n).length, by omega, fun mark _ => ?_⟩
    have e : hdr mark n = UInt8.ofNat (mark + 47 + (nu n).length) :: nu n := by unfold hdr; rw [if_neg h48]
    rw [e]
    refine ⟨by rw [Nat.add_assoc]; rfl, ?_, ?_⟩
    · have e1 : 47 + (nu n).length - 47 = (nu n).length := by omega
      simp only [List.drop_succ_cons, List.drop_zero]
      unfold rsz
      rw [if_neg (by omega), e1, if_neg (by rw [List.length_append]; omega), List.take_left, if_neg (nu_cb n), hv, if_neg h48, List.drop_left, if_neg (by omega)]
    · simp only [List.drop_succ_cons, List.drop_zero]
      rw [List.drop_left]
theorem ritem_text (t r : List UInt8) (ks : List It) (h : t.length < 18446744073709551616) : ritem (enc (.mk false t ks) ++ r) = some (.mk false t [], r) := by
  unfold enc
  by_cases h1 : t.length = 1 ∧ Sp.bz t 0 < 128
  · rw [if_pos h1]
    match t, h1 with
    | [c], h1 =>
      have hc : c.toNat < 128 := by have := h1.2; simp [Sp.bz] at this; omega
      unfold ritem rit
      simp only [List.cons_append, List.nil_append]
      rw [if_pos hc]
  · rw [if_neg h1, List.append_assoc]
    obtain ⟨s, k, hs, H⟩ := rsz_hdr t.length (t ++ r) h (by rw [List.length_append]; omega)
    obtain ⟨e1, e2, e3⟩ := H 128 (by decide)
    rw [e1]
    have hu : (UInt8.ofNat (128 + s)).toNat = 128 + s := u8_of _ (by omega)
    unfold ritem rit
    dsimp only
    rw [hu, if_neg (by omega), if_pos (by omega), show 128 + s - 128 = s by omega]
    unfold rtx
    rw [e2]
    dsimp only
    rw [e3, if_neg (by rw [List.length_append]; omega)]
    rw [if_neg (fun h2 => h1 ⟨h2.1, by
      have hz : Sp.bz (t ++ r) 0 = Sp.bz t 0 := by
        simp only [Sp.bz, List.getD_eq_getElem?_getD]
        rw [List.getElem?_append_left (by omega)]
      rw [← hz]; exact h2.2⟩)]
    simp
theorem ritem_lists (ks : List It) (a r : List UInt8) (h : (encs ks).length < 18446744073709551616) (hk : rkids (encs ks) = some (bars ks)) : ritem (enc (.mk true a ks) ++ r) = some (.mk true [] (bars ks), r) := by
  unfold enc
  rw [List.append_assoc]
  obtain ⟨s, k, hs, H⟩ := rsz_hdr (encs ks).length (encs ks ++ r) h (by rw [List.length_append]; omega)
  obtain ⟨e1, e2, e3⟩ := H 192 (by decide)
  rw [e1]
  have hu : (UInt8.ofNat (192 + s)).toNat = 192 + s := u8_of _ (by omega)
  unfold ritem rit
  dsimp only
  rw [hu, if_neg (by omega), if_neg (by omega), show 192 + s - 192 = s by omega, e2]
  dsimp only
  rw [e3, if_neg (by rw [List.length_append]; omega), List.take_left, List.drop_left, hk]
  rfl
theorem enc_pos (t : It) : 0 < (enc t).length := by
  cases t with
  | mk l t ks =>
    have hh : ∀ m n, 0 < (hdr m n).length := fun m n => by unfold hdr; split <;> simp
    cases l
    · unfold enc
      split
      · rename_i h; omega
      · rw [List.length_append]; have := hh 128 t.length; omega
    · unfold enc
      rw [List.length_append]
      have := hh 192 (encs ks).length
      omega
mutual
theorem ritem_enc : ∀ (t : It) (r : List UInt8), (enc t).length < 18446744073709551616 → ritem (enc t ++ r) = some (bar t, r)
  | .mk false t ks, r, h => by
    have hl : t.length < 18446744073709551616 := by
      unfold enc at h
      split at h
      · exact h
      · rw [List.length_append] at h; omega
    rw [ritem_text t r ks hl]
    rfl
  | .mk true a ks, r, h => by
    have hl : (encs ks).length < 18446744073709551616 := by
      unfold enc at h
      rw [List.length_append] at h; omega
    rw [ritem_lists ks a r hl (rkids_encs ks hl)]
    rfl
theorem rkids_encs : ∀ ks : List It, (encs ks).length < 18446744073709551616 → rkids (encs ks) = some (bars ks)
  | [], _ => rkids_nil
  | k :: ks, h => by
    unfold encs at h ⊢
    rw [List.length_append] at h
    have h0 := enc_pos k
    rw [rkids_some (by rw [List.length_append]; omega) (ritem_enc k (encs ks) (by omega)), rkids_encs ks (by omega)]
    rfl
end
end Pk
end Go.Proofs.YtnbopclliokkcabDoor
/- pack's writer: head. -/
namespace Go.Proofs.YtnbopclliokkcabDoor
namespace Pk
open Go.RowKit Go.Shelf
theorem wt_form {g : Nat} {bs : List UInt8} {v : Value} {w : World} (h : Wt g bs v w) : ∃ a n c, v = .slice a n c := by
  rcases h.o.2 with ⟨h3, _⟩ | ⟨g3, cap3, cur, h3, _⟩
  · exact ⟨_, _, _, h3⟩
  · exact ⟨_, _, _, h3⟩
/-- One byte more. -/
theorem Wt_step {W WC : World} {g G pq n1 p1 : Nat} {a1 : Option Addr} {bs : List UInt8} (c : UInt8) (hw1 : Wt g bs (.slice a1 n1 p1) W)
    (own2 : WC.ownsRow (g + 1) 5 1 (.slice (some ⟨G, 0, none⟩) (bs.length + 1) pq) (bs ++ [c]).length (bcs (bs ++ [c]))) (hgr : (W.alloc (.cells #[.int .u8 (c.toNat : Int)] 5)).grownBy WC (Value.slice a1 n1 p1).ownBlock) (hG : (Value.slice a1 n1 p1).ownBlock = some G ∨ (W.alloc (.cells #[.int .u8 (c.toNat : Int)] 5)).heap.size ≤ G) :
    (W.alloc (.cells #[.int .u8 (c.toNat : Int)] 5)).cell? ⟨g, 0, none⟩ = some (.slice a1 n1 p1) ∧ WC.cell? ⟨g, 0, none⟩ = some (.slice a1 n1 p1) ∧ WC.frozen? ⟨g, 0, none⟩ = false ∧
    Wt g (bs ++ [c]) (.slice (some ⟨G, 0, none⟩) (bs.length + 1) pq) (WC.setCell ⟨g, 0, none⟩ (.slice (some ⟨G, 0, none⟩) (bs.length + 1) pq)) ∧ Fw g (.slice a1 n1 p1) (.slice (some ⟨G, 0, none⟩) (bs.length + 1) pq) W (WC.setCell ⟨g, 0, none⟩ (.slice (some ⟨G, 0, none⟩) (bs.length + 1) pq)) := by
  have hlo := hw1.o.lt
  have bB : Below W.heap.size W (W.alloc (.cells #[.int .u8 (c.toNat : Int)] 5)) := (Below.refl _ _).alloc (Nat.le_refl _) _
  have hsB := bB.size
  generalize W.alloc (.cells #[.int .u8 (c.toNat : Int)] 5) = WB at *
  have gs := gb_set WC g 0 (.slice (some ⟨G, 0, none⟩) (bs.length + 1) pq)
  have hgi := hw1.hi
  have ng : some g ≠ (Value.slice a1 n1 p1).ownBlock := fun e => by have := (hlo g e.symm).1; omega
  have cBg : WB.cell? ⟨g, 0, none⟩ = some (.slice a1 n1 p1) := (bB.cell (p := ⟨g, 0, none⟩) hgi).trans hw1.c
  have cCg : WC.cell? ⟨g, 0, none⟩ = some (.slice a1 n1 p1) := (World.cell?_of_block (a := ⟨g, 0, none⟩) (hgr.block g (by omega) ng)).trans cBg
  have fCg : WC.frozen? ⟨g, 0, none⟩ = false := (World.frozen?_of_block (a := ⟨g, 0, none⟩) (hgr.block g (by omega) ng)).trans ((bB.frozen (p := ⟨g, 0, none⟩) hgi).trans hw1.f)
  have hGg : G ≠ g := by
    rcases hG with h | h
    · have := (hlo G h).1; omega
    · omega
  have szD : (WC.setCell ⟨g, 0, none⟩ (.slice (some ⟨G, 0, none⟩) (bs.length + 1) pq)).heap.size = WC.heap.size := by simp [World.setCell]
  have hsC := hgr.size
  refine ⟨cBg, cCg, fCg, ⟨by rw [szD]; omega, by rw [World.frozen?_setCell]; exact fCg, World.cell?_setCell_same WC ⟨g, 0, none⟩ _ cCg, own2.kept gs (.inr (fun e => by
    have e2 : (some G : Option Nat) = some g := e
    injection e2 with e2
    exact hGg e2))⟩, ⟨gs.os.trans (hgr.os.trans bB.os), gs.tape.trans (hgr.tape.trans bB.tape), gs.output.trans (hgr.output.trans bB.output), by rw [szD]; omega, fun j hj h1 h2 => (gs.block j (by omega) (fun e => h1 (by injection e))).trans ((hgr.block j (by omega) h2).trans (bB.block j hj)), ?_⟩⟩
  rcases hG with h | h
  · exact .inl h.symm
  · right
    intro k hk
    have e2 : (some G : Option Nat) = some k := hk
    injection e2 with e2
    omega
set_option maxHeartbeats 1000000 in
set_option maxRecDepth 100000 in
theorem head_short (g mark n : Nat) (bs : List UInt8) (v : Value) (w : World) (hw : Wt g bs v w) (hn : n < 48) (hm : mark + 48 ≤ 256) (hl : bs.length + 1 ≤ 4398046511103) :
    Calls Tryd.prog 24 #[.pointer (some ⟨g, 0, none⟩), .int .u8 (mark : Int), .int .i64 (n : Int)] w fun e w' => e = .returned (.tuple #[]) ∧ ∃ v', Wt g (bs ++ [UInt8.ofNat (mark + n)]) v' w' ∧ Fw g v v' w w' := by
  obtain ⟨a1, n1, p1, rfl⟩ := wt_form hw
  have hu : (UInt8.ofNat (mark + n)).toNat = mark + n := u8_of _ (by omega)
  obtain ⟨G, pq, WC, hap, own2, hgr, hG⟩ := app_one (w := w) (UInt8.ofNat (mark + n)) hw.o (by have := hw.hi; omega) (by omega)
  obtain ⟨mB, mC, fC, HW, HF⟩ := Wt_step _ hw own2 hgr hG
  have mA := hw.c
  have ec : ((UInt8.ofNat (mark + n)).toNat : Int) = (mark : Int) + (n : Int) := by rw [hu]; omega
  rw [ec] at hap mB
  have d0 : decide ((n : Int) < 48) = true := decide_eq_true (by omega)
  have e1 : IntKind.u8.wrap (n : Int) = (n : Int) := by rw [IntKind.wrap_u8]; omega
  have e2 : IntKind.u8.wrap ((mark : Int) + (n : Int)) = (mark : Int) + (n : Int) := by rw [IntKind.wrap_u8]; omega
  have HR : Hid (∃ v', Wt g (bs ++ [UInt8.ofNat (mark + n)]) v' (WC.setCell ⟨g, 0, none⟩ (.slice (some ⟨G, 0, none⟩) (bs.length + 1) pq)) ∧ Fw g (.slice a1 n1 p1) v' w (WC.setCell ⟨g, 0, none⟩ (.slice (some ⟨G, 0, none⟩) (bs.length + 1) pq))) := ⟨_, HW, HF⟩
  clear HW HF own2 hgr hG hu ec hw hn hm hl
  generalize bs.length + 1 = m2 at *
  go_enter Tryd.func24, Tryd.ntmps24
  go_wp2_with (at_builtin; refine wpList_apw rfl rfl rfl rfl hap ?_)
  exact bodyPost_ret (results_none rfl _ _ _) rfl ⟨rfl, HR.out⟩
end Pk
end Go.Proofs.YtnbopclliokkcabDoor
/- pack.Num: where its bytes lie. -/
namespace Go.Proofs.YtnbopclliokkcabDoor
namespace Pk
open Go.RowKit
set_option maxHeartbeats 400000 in
set_option maxRecDepth 100000 in
theorem trimb_at (l : List UInt8) (g off cap : Nat) (hcap : l.length ≤ cap) (hc63 : (cap : Int) ≤ 9223372036854775807) (w : World) (hg : g < w.heap.size) (hc : ∀ j, j < l.length → w.cell? ⟨g, off + j, none⟩ = some (.int .u8 (Sp.bz l j))) :
    Calls Tryd.prog 27 #[.slice (some ⟨g, off, none⟩) l.length cap, .int .u8 0] w fun e w' => ∃ v, e = .returned v ∧ Ty (· = g) (nz l) v w ∧ w' = w := by
  go_enter Tryd.func27, Tryd.ntmps27
  go_wp2_with fail
  have HG : Hid (g < w.heap.size) := hg
  go_loopw [0] (fun s wr => ∃ (l' : List UInt8) (ao : Option Addr) (o c : Nat), s = .slice ao l'.length c ∧ Hid (nz l' = nz l) ∧ l'.length ≤ c ∧ (c : Int) ≤ 9223372036854775807 ∧ (0 < l'.length → ao = some ⟨g, o, none⟩) ∧ Hid (∀ j, j < l'.length → w.cell? ⟨g, o + j, none⟩ = some (.int .u8 (Sp.bz l' j))) ∧ w = wr) (fun s _ => slen s)
  case atStart => exact ⟨l, _, off, cap, rfl, rfl, hcap, hc63, fun _ => rfl, hc, rfl⟩
  case round =>
    clear hc hcap hc63 hg
    obtain ⟨l', ao, o, c, rfl, ht, hlc, hc63, hao, hc, rfl⟩ := hrel
    cases l' with
    | nil =>
      simp only [List.length_nil]
      clear hao hc
      go_wp2
      go_ret
      exact ⟨_, rfl, by rw [← ht.out]; exact Ty_nil _ _, rfl⟩
    | cons x r =>
      obtain rfl := hao (by rw [List.length_cons]; omega)
      have c0 := hc.out 0 (by rw [List.length_cons]; omega)
      rw [Nat.add_zero, bz_head] at c0
      rw [List.length_cons] at hlc
      have hn : (x :: r).length = r.length + 1 := List.length_cons ..
      have HT0 : Hid (nz (x :: r) = nz l) := ht
      have HC0 : Hid (∀ j, j < (x :: r).length → w.cell? ⟨g, o + j, none⟩ = some (.int .u8 (Sp.bz (x :: r) j))) := hc
      have HC : Hid (∀ j, j < r.length → w.cell? ⟨g, o + 1 + j, none⟩ = some (.int .u8 (Sp.bz r j))) := fun j hj => by
        have := hc.out (j + 1) (by rw [List.length_cons]; omega)
        rw [bz_cons] at this
        rw [← this]
        congr 2
        omega
      have HV : Hid (Ty (· = g) (x :: r) (.slice (some ⟨g, o, none⟩) (x :: r).length c) w) := ⟨_, c, rfl, by rw [hn]; exact hlc, fun _ => ⟨g, o, rfl, rfl, HG.out, hc.out⟩⟩
      clear ht hc hao
      generalize (x :: r).length = n at *
      have n0 : (0 : Int) < (n : Int) := by omega
      have n1 : (1 : Int) ≤ (n : Int) := by omega
      have n2 : (1 : Int) ≤ (c : Int) := by omega
      have n3 : (n : Int) ≤ (c : Int) := by omega
      have n4 : decide ((0 : Int) < (n : Int)) = true := decide_eq_true n0
      have ne : Hid (n - 1 = r.length) := by show _ = _; omega
      have HN : Hid (n = r.length + 1) := hn
      clear hn
      by_cases hx : x = 0
      · subst hx
        have c1 : w.cell? ⟨g, o, none⟩ = some (.int .u8 0) := c0
        have HT : Hid (nz r = nz l) := by rw [← HT0.out]; rfl
        clear c0 HT0 HC0 HV
        by_cases hc1 : c = 1
        · subst hc1
          have hn1 : n = 1 := by have := HN.out; omega
          have hr : r = [] := List.length_eq_zero_iff.1 (by have := HN.out; omega)
          subst hr
          clear hlc n0 n1 n2 n3 n4 ne HN hc63
          subst hn1
          go_wp2_with fail
          go_roundw
          case rel => exact ⟨[], _, o, 0, rfl, HT, Nat.le_refl _, by decide, fun h => absurd h (by decide), fun j hj => absurd hj (by simp), trivial⟩
          case measure => exact Nat.zero_lt_one
        · have n5 : (1 : Int) < (c : Int) := by omega
          go_wp2_with fail
          go_roundw
          case rel => exact ⟨r, _, o + 1, c - 1, by rw [← ne.out], HT, by omega, by omega, fun _ => rfl, HC, trivial⟩
          case measure => simp only [slen]; omega
      · have hx2 : ¬ ((x.toNat : Int) = 0) := fun h => hx (UInt8.toNat_inj.1 (show x.toNat = (0 : UInt8).toNat by have : ((0 : UInt8).toNat) = 0 := rfl; omega))
        have hx3 : ((x.toNat : Int) == 0) = false := beq_false_of_ne hx2
        have hx4 : decide ((x.toNat : Int) = 0) = false := decide_eq_false hx2
        have n6 : ((n : Int) == 0) = false := beq_false_of_ne (by omega)
        have n7 : decide ((n : Int) = 0) = false := decide_eq_false (by omega)
        have hz : nz (x :: r) = x :: r := by rw [nz, if_neg hx]
        have HZ : Hid (nz l = x :: r) := HT0.out.symm.trans hz
        clear HC HC0 HT0 hx2 hz HN ne
        go_wp2
        go_ret
        exact ⟨_, rfl, by rw [HZ.out]; exact HV.out, rfl⟩
set_option maxHeartbeats 400000 in
set_option maxRecDepth 100000 in
theorem trim_at (l : List UInt8) (g off cap : Nat) (h0 : 0 < l.length) (hcap : l.length ≤ cap) (hc63 : (cap : Int) ≤ 9223372036854775807) (w : World) (hg : g < w.heap.size) (hc : ∀ j, j < l.length → w.cell? ⟨g, off + j, none⟩ = some (.int .u8 (Sp.bz l j))) :
    Calls Tryd.prog 19 #[.slice (some ⟨g, off, none⟩) l.length cap, .string ⟨#[0]⟩] w fun e w' => ∃ v, e = .returned v ∧ Ty (· = g) (nz l) v w ∧ w' = w := by
  have K : Hid (Calls Tryd.prog 27 #[.slice (some ⟨g, off, none⟩) l.length cap, .int .u8 0] w fun e w' => ∃ v, e = .returned v ∧ Ty (· = g) (nz l) v w ∧ w' = w) := trimb_at l g off cap hcap hc63 w hg hc
  have n6 : ((l.length : Int) == 0) = false := beq_false_of_ne (by omega)
  have n7 : decide ((l.length : Int) = 0) = false := decide_eq_false (by omega)
  have e0 : (({ data := #[0] } : ByteArray)[0]).toNat = 0 := rfl
  clear hc hg hcap hc63
  generalize nz l = Z at *
  generalize l.length = n at *
  go_enter Tryd.func19, Tryd.ntmps19
  go_wp2_with fail
  refine K.out.mono (fun e w2 he => ?_)
  obtain ⟨v, rfl, hs, rfl⟩ := he
  have HS : Hid (Ty (· = g) Z v w2) := hs
  clear hs K n6 n7 h0
  go_wp2
  go_ret
  exact ⟨_, rfl, HS.out, rfl⟩
set_option maxHeartbeats 400000 in
set_option maxRecDepth 100000 in
theorem num_new (a : Nat) (w : World) :
    Calls Tryd.prog 11 #[Wd a] w fun e w' => ∃ v, e = .returned v ∧ Ty (w.heap.size ≤ ·) (nu a) v w' ∧ Below w.heap.size w w' := by
  have KT : Hid (∀ (g : Nat) (W3 : World), g < W3.heap.size → Sp.CK .u8 g 32 (bt a) W3 → Calls Tryd.prog 19 #[.slice (some ⟨g, 0, none⟩) 32 32, .string ⟨#[0]⟩] W3 fun e w' => ∃ v, e = .returned v ∧ Ty (· = g) (nu a) v W3 ∧ w' = W3) := fun g W3 Z0 C0 => by
    have k := trim_at (wb a) g 0 32 (by rw [wb_len]; decide) (by rw [wb_len]; decide) (by decide) W3 Z0 (fun j hj => by
      rw [wb_len] at hj
      rw [Nat.zero_add, wb_bz a j hj]
      exact C0 j hj)
    rw [wb_len] at k
    exact k
  generalize nu a = N at *
  conv => arg 3; unfold Wd
  go_enter Tryd.func11, Tryd.ntmps11
  go_wp2_with fail
  have b0 : Below w.heap.size w (w.alloc (.cells #[.int .u64 (dg a 0), .int .u64 (dg a 1), .int .u64 (dg a 2), .int .u64 (dg a 3)] 37)) := (Below.refl _ _).alloc (Nat.le_refl _) _
  generalize w.alloc (.cells #[.int .u64 (dg a 0), .int .u64 (dg a 1), .int .u64 (dg a 2), .int .u64 (dg a 3)] 37) = W0 at b0 ⊢
  refine (bytes_any a W0).mono ?_
  rintro e w1 ⟨rfl, hb1⟩
  have b1 : Below w.heap.size w w1 := b0.trans (hb1.mono b0.size)
  clear b0 hb1
  dsimp only
  go_step
  go_step
  go_step
  go_step
  have q2 := Sp.Vb_zero32 w.heap.size w1 49 b1.size
  have b2 : Below w.heap.size w (w1.alloc (.cells #[.int .u8 0, .int .u8 0, .int .u8 0, .int .u8 0, .int .u8 0, .int .u8 0, .int .u8 0, .int .u8 0, .int .u8 0, .int .u8 0, .int .u8 0, .int .u8 0, .int .u8 0, .int .u8 0, .int .u8 0, .int .u8 0, .int .u8 0, .int .u8 0, .int .u8 0, .int .u8 0, .int .u8 0, .int .u8 0, .int .u8 0, .int .u8 0, .int .u8 0, .int .u8 0, .int .u8 0, .int .u8 0, .int .u8 0, .int .u8 0, .int .u8 0, .int .u8 0] 49)) := b1.alloc b1.size _
  generalize w1.alloc (.cells #[.int .u8 0, .int .u8 0, .int .u8 0, .int .u8 0, .int .u8 0, .int .u8 0, .int .u8 0, .int .u8 0, .int .u8 0, .int .u8 0, .int .u8 0, .int .u8 0, .int .u8 0, .int .u8 0, .int .u8 0, .int .u8 0, .int .u8 0, .int .u8 0, .int .u8 0, .int .u8 0, .int .u8 0, .int .u8 0, .int .u8 0, .int .u8 0, .int .u8 0, .int .u8 0, .int .u8 0, .int .u8 0, .int .u8 0, .int .u8 0, .int .u8 0, .int .u8 0] 49) = W2 at q2 b2 ⊢
  have hg9 : w.heap.size ≤ w1.heap.size := b1.size
  clear b1
  generalize w1.heap.size = g9 at q2 hg9 ⊢
  have t1 : W2.there g9 0 (Sp.h32 (bt a)).toArray.size := Sp.there32a q2.c q2.f
  have C0 : Sp.CK .u8 g9 32 (bt a) (W2.setCells g9 0 (Sp.h32 (bt a)).toArray.toList) := Sp.CK_set32 q2.c q2.f
  have B0 : Below w.heap.size w (W2.setCells g9 0 (Sp.h32 (bt a)).toArray.toList) := Sp.Bel_sets hg9 _ _ _ b2
  have Z0 : g9 < (W2.setCells g9 0 (Sp.h32 (bt a)).toArray.toList).heap.size := by rw [Sp.size_setCells]; exact q2.hi
  refine wpList_store_mid rfl 49 (.tmp 3) (.tmp 5) rfl g9 0 (Sp.h32 (bt a)).toArray rfl rfl t1 Sp.info32a (all_oneCell_toArray (Sp.h32_one (bt a))) ?_
  refine wpList_nil ?_
  clear q2 b2 t1
  generalize W2.setCells g9 0 (Sp.h32 (bt a)).toArray.toList = W3 at C0 B0 Z0 ⊢
  have KW : Hid (Calls Tryd.prog 19 #[.slice (some ⟨g9, 0, none⟩) 32 32, .string ⟨#[0]⟩] W3 fun e w' => ∃ v, e = .returned v ∧ Ty (· = g9) N v W3 ∧ w' = W3) := KT.out g9 W3 Z0 C0
  clear C0 Z0 KT
  generalize Sp.h32 (bt a) = hh at *
  go_wp2_with fail
  refine KW.out.mono (fun e w4 he => ?_)
  obtain ⟨v, rfl, hs, rfl⟩ := he
  have HS : Hid (Ty (w.heap.size ≤ ·) N v w4) := Ty_mono hs (fun k hk _ => by omega)
  have HB : Hid (Below w.heap.size w w4) := B0
  clear hs B0 KW
  go_wp2
  go_ret
  exact ⟨_, rfl, HS.out, HB.out⟩
end Pk
end Go.Proofs.YtnbopclliokkcabDoor
/- pack's writer: head, long; head at every size. -/
namespace Go.Proofs.YtnbopclliokkcabDoor
namespace Pk
open Go.RowKit Go.Shelf
theorem Wt_below {g : Nat} {bs : List UInt8} {v : Value} {w w' : World} (h : Wt g bs v w) (b : Below w.heap.size w w') : Wt g bs v w' :=
  ⟨Nat.lt_of_lt_of_le h.hi b.size, (b.frozen (p := ⟨g, 0, none⟩) h.hi).trans h.f, (b.cell (p := ⟨g, 0, none⟩) h.hi).trans h.c, ownb h.o b⟩
theorem Fw_below {g : Nat} {v : Value} {w w' : World} (b : Below w.heap.size w w') : Fw g v v w w' := ⟨b.os, b.tape, b.output, b.size, fun j hj _ _ => b.block j hj, .inl rfl⟩
set_option maxHeartbeats 2000000 in
set_option maxRecDepth 100000 in
theorem head_long (g mark n : Nat) (bs : List UInt8) (v : Value) (w : World) (hw : Wt g bs v w) (hn : 48 ≤ n) (hn2 : n ≤ 4194304) (hm : mark + 64 ≤ 256) (hl : bs.length + 16 ≤ 4398046511103) :
    Calls Tryd.prog 24 #[.pointer (some ⟨g, 0, none⟩), .int .u8 (mark : Int), .int .i64 (n : Int)] w fun e w' => e = .returned (.tuple #[]) ∧ ∃ v', Wt g (bs ++ (nu n).reverse ++ [UInt8.ofNat (mark + 47 + (nu n).length)]) v' w' ∧ Fw g v v' w w' := by
  have l8 := nu_8 n (by omega)
  have l0 := nu_pos n (by omega) (by omega)
  have KI : Hid (∀ wx : World, Calls Tryd.prog 14 #[.int .u64 (n : Int)] wx fun e w' => e = .returned (Wd n) ∧ Below wx.heap.size wx w') := fun wx => (int_any n (by omega) wx).mono fun e w' he => by
    first | exact he | exact ⟨he.1, by rw [he.2]; exact Below.refl _ _⟩
  have KN : Hid (∀ wx : World, Calls Tryd.prog 11 #[Wd n] wx fun e w' => ∃ v, e = .returned v ∧ Ty (wx.heap.size ≤ ·) (nu n) v w' ∧ Below wx.heap.size wx w') := num_new n
  have KL : Hid (∀ (ao : Option Addr) (cap b : Nat) (wx : World), Below w.heap.size w wx → Sp.Vw (nu n) ao wx → (∃ off, ao = some ⟨b, off, none⟩) → w.heap.size ≤ b → b < wx.heap.size → Calls Tryd.prog 32 #[.pointer (some ⟨g, 0, none⟩), .slice ao (nu n).length cap] wx fun e w' => e = .returned (.tuple #[]) ∧ ∃ v', Wt g (bs ++ (nu n).reverse) v' w' ∧ Fw g v v' w w') := fun ao cap b wx hb vw ho h1 h2 =>
    (lay_any g bs (nu n) v ao cap b wx (Wt_below hw hb) (by omega) (by omega) vw (fun _ => ho) h2 (by have := hw.hi; omega) (fun e => by have := (hw.o.lt b e.symm).2; omega)).mono fun e w' he => by
      obtain ⟨h3, v', h4, h5⟩ := he
      exact ⟨h3, v', h4, Fw_trans (Fw_below hb) h5⟩
  have HS : Hid (∀ (v1 : Value) (W : World), Wt g (bs ++ (nu n).reverse) v1 W → Fw g v v1 w W → ∃ a1 n1 p1 G m2 pq WC, v1 = .slice a1 n1 p1 ∧ W.cell? ⟨g, 0, none⟩ = some (.slice a1 n1 p1) ∧ (Builtin.append_ #[22, 22] 22 #[.slice a1 n1 p1, .slice (some ⟨W.heap.size, 0, none⟩) 1 1]).run Tryd.prog (W.alloc (.cells #[.int .u8 ((mark + 47 + (nu n).length : Nat) : Int)] 5)) = .ok (.slice (some ⟨G, 0, none⟩) m2 pq) WC ∧ (W.alloc (.cells #[.int .u8 ((mark + 47 + (nu n).length : Nat) : Int)] 5)).cell? ⟨g, 0, none⟩ = some (.slice a1 n1 p1) ∧ WC.cell? ⟨g, 0, none⟩ = some (.slice a1 n1 p1) ∧ WC.frozen? ⟨g, 0, none⟩ = false ∧ ∃ v', Wt g (bs ++ (nu n).reverse ++ [UInt8.ofNat (mark + 47 + (nu n).length)]) v' (WC.setCell ⟨g, 0, none⟩ (.slice (some ⟨G, 0, none⟩) m2 pq)) ∧ Fw g v v' w (WC.setCell ⟨g, 0, none⟩ (.slice (some ⟨G, 0, none⟩) m2 pq))) := fun v1 W h1 h2 => by
    obtain ⟨a1, n1, p1, rfl⟩ := wt_form h1
    have hu : (UInt8.ofNat (mark + 47 + (nu n).length)).toNat = mark + 47 + (nu n).length := u8_of _ (by omega)
    obtain ⟨G, pq, WC, hap, own2, hgr, hG⟩ := app_one (w := W) (UInt8.ofNat (mark + 47 + (nu n).length)) h1.o (by have := h1.hi; omega) (by rw [List.length_append, List.length_reverse]; omega)
    obtain ⟨mB, mC, fC, HW, HF⟩ := Wt_step _ h1 own2 hgr hG
    rw [hu] at hap mB
    exact ⟨a1, n1, p1, G, _, pq, WC, rfl, h1.c, hap, mB, mC, fC, _, HW, Fw_trans h2 HF⟩
  have d0 : decide ((n : Int) < 48) = false := decide_eq_false (by omega)
  have e1 : IntKind.u64.wrap (n : Int) = (n : Int) := by rw [IntKind.wrap_u64]; omega
  obtain ⟨L, hL⟩ : ∃ L, L = (nu n).length := ⟨_, rfl⟩
  have e2 : IntKind.u8.wrap ((mark : Int) + 48) = (mark : Int) + 48 := by rw [IntKind.wrap_u8]; omega
  have e3 : Hid (wrap64 ((L : Int) - 1) = (L : Int) - 1) := by show _ = _; unfold wrap64; omega
  have e4 : IntKind.u8.wrap ((L : Int) - 1) = (L : Int) - 1 := by rw [IntKind.wrap_u8]; omega
  have e5 : IntKind.u8.wrap ((mark : Int) + 48 + ((L : Int) - 1)) = ((mark + 47 + L : Nat) : Int) := by rw [IntKind.wrap_u8]; omega
  have HN : Hid (0 < (nu n).length) := l0
  rw [← hL] at KL HS ⊢
  have HLN : Hid (L = (nu n).length) := hL
  clear hw hn hn2 hm hl l8 l0 hL
  go_enter Tryd.func24, Tryd.ntmps24
  go_wp2_with fail
  refine (KI.out _).mono (fun e w1 he => ?_)
  obtain ⟨rfl, b1⟩ := he
  go_wp2_with fail
  refine (KN.out _).mono (fun e w2 he => ?_)
  obtain ⟨vs, rfl, ⟨ao, cap, rfl, hcap, hty⟩, b2'⟩ := he
  have b2 := b1.trans (b2'.mono b1.size)
  obtain ⟨b, off, rfl, hb1, hb2, hcs⟩ := hty HN.out
  have VW : Hid (Sp.Vw (nu n) (some ⟨b, off, none⟩) w2) := fun _ => ⟨b, off, rfl, hb2, hcs⟩
  have hbl : w.heap.size ≤ b := Nat.le_trans b1.size hb1
  rw [← HLN.out]
  clear KI KN hcap hty b2' hb1 hcs
  go_wp2_with fail
  refine (KL.out (some ⟨b, off, none⟩) cap b _ b2 VW.out ⟨off, rfl⟩ hbl hb2).mono (fun e w3 he => ?_)
  obtain ⟨rfl, v1, hw3, hf3⟩ := he
  obtain ⟨a1, n1, p1, G, m2, pq, WC, rfl, mA, hap, mB, mC, fC, HR⟩ := HS.out v1 w3 hw3 hf3
  have HR : Hid (∃ v', Wt g (bs ++ (nu n).reverse ++ [UInt8.ofNat (mark + 47 + L)]) v' (WC.setCell ⟨g, 0, none⟩ (.slice (some ⟨G, 0, none⟩) m2 pq)) ∧ Fw g v v' w (WC.setCell ⟨g, 0, none⟩ (.slice (some ⟨G, 0, none⟩) m2 pq))) := HR
  clear KL HS hw3 hf3 VW hbl hb2 b1 b2
  have e3 := e3.out
  go_wp2_with (at_builtin; refine wpList_apw rfl rfl rfl rfl hap ?_)
  go_end0
  exact ⟨rfl, HR.out⟩
/-- A head, laid ahead of what is there. -/
theorem head_any (g mark n : Nat) (bs : List UInt8) (v : Value) (w : World) (hw : Wt g bs v w) (hn2 : n ≤ 4194304) (hm : mark + 64 ≤ 256) (hl : bs.length + 16 ≤ 4398046511103) :
    Calls Tryd.prog 24 #[.pointer (some ⟨g, 0, none⟩), .int .u8 (mark : Int), .int .i64 (n : Int)] w fun e w' => e = .returned (.tuple #[]) ∧ ∃ v', Wt g (bs ++ (hdr mark n).reverse) v' w' ∧ Fw g v v' w w' := by
  by_cases h : n < 48
  · have e : (hdr mark n).reverse = [UInt8.ofNat (mark + n)] := by unfold hdr; rw [if_pos h]; rfl
    rw [e]
    exact head_short g mark n bs v w hw h (by omega) (by omega)
  · have e : (hdr mark n).reverse = (nu n).reverse ++ [UInt8.ofNat (mark + 47 + (nu n).length)] := by unfold hdr; rw [if_neg h, List.reverse_cons]
    rw [e, ← List.append_assoc]
    exact head_long g mark n bs v w hw (by omega) hn2 hm hl
end Pk
end Go.Proofs.YtnbopclliokkcabDoor
/- pack's writer: text. -/
namespace Go.Proofs.YtnbopclliokkcabDoor
namespace Pk
open Go.RowKit Go.Shelf
set_option maxHeartbeats 2000000 in
set_option maxRecDepth 100000 in
theorem text_w (g : Nat) (bs t : List UInt8) (ks : List It) (v : Value) (ao : Option Addr) (cap b : Nat) (w : World) (hw : Wt g bs v w) (hz : t.length ≤ 1048576) (hlen : bs.length + t.length + 16 ≤ 4398046511103) (vw : Sp.Vw t ao w) (hb : 0 < t.length → ∃ off, ao = some ⟨b, off, none⟩) (hbw : b < w.heap.size) (hbg : b ≠ g) (hbv : some b ≠ v.ownBlock) :
    Calls Tryd.prog 22 #[.pointer (some ⟨g, 0, none⟩), .slice ao t.length cap] w fun e w' => e = .returned (.tuple #[]) ∧ ∃ v', Wt g (bs ++ (enc (.mk false t ks)).reverse) v' w' ∧ Fw g v v' w w' := by
  have KL : Hid (Calls Tryd.prog 32 #[.pointer (some ⟨g, 0, none⟩), .slice ao t.length cap] w fun e w' => e = .returned (.tuple #[]) ∧ ∃ v', Wt g (bs ++ t.reverse) v' w' ∧ Fw g v v' w w') := lay_any g bs t v ao cap b w hw hz (by omega) vw hb hbw hbg hbv
  have KH : Hid (∀ (v1 : Value) (W : World), Wt g (bs ++ t.reverse) v1 W → Fw g v v1 w W → Calls Tryd.prog 24 #[.pointer (some ⟨g, 0, none⟩), .int .u8 128, .int .i64 (t.length : Int)] W fun e w' => e = .returned (.tuple #[]) ∧ ∃ v', Wt g (bs ++ t.reverse ++ (hdr 128 t.length).reverse) v' w' ∧ Fw g v v' w w') := fun v1 W h1 h2 =>
    (head_any g 128 t.length (bs ++ t.reverse) v1 W h1 (by omega) (by decide) (by rw [List.length_append, List.length_reverse]; omega)).mono fun e w' he => by
      obtain ⟨h3, v', h4, h5⟩ := he
      exact ⟨h3, v', h4, Fw_trans h2 h5⟩
  by_cases h1 : t.length = 1
  · obtain ⟨off, rfl⟩ := hb (by omega)
    obtain ⟨g', off', e1, hg', hc⟩ := vw (by omega)
    injection e1 with e1
    injection e1 with e2 e3 _
    subst e2 e3
    have c0 : w.cell? ⟨b, off, none⟩ = some (.int .u8 (Sp.bz t 0)) := hc 0 (by omega)
    have HB : Hid (∀ (v1 : Value) (W : World), Fw g v v1 w W → W.cell? ⟨b, off, none⟩ = some (.int .u8 (Sp.bz t 0))) := fun v1 W hf => (World.cell?_of_block (a := ⟨b, off, none⟩) (hf.block b hbw hbg hbv)).trans c0
    have d0 : ((t.length : Int) != 1) = false := by rw [h1]; rfl
    have l0 : (0 : Int) < (t.length : Int) := by omega
    by_cases h2 : Sp.bz t 0 < 128
    · have e : enc (.mk false t ks) = t := by unfold enc; rw [if_pos ⟨h1, h2⟩]
      rw [e]
      have d1 : decide ((128 : Int) ≤ Sp.bz t 0) = false := decide_eq_false (by omega)
      clear hw hz hlen vw hb hbw hbg hbv hc c0 h1 h2 e KH hg'
      generalize Sp.bz t 0 = X at *
      generalize t.length = n at *
      go_enter Tryd.func22, Tryd.ntmps22
      go_wp2_with fail
      refine KL.out.mono (fun e w1 he => ?_)
      obtain ⟨rfl, v1, h3, h4⟩ := he
      have cx := HB.out v1 w1 h4
      have HR : Hid (∃ v', Wt g (bs ++ t.reverse) v' w1 ∧ Fw g v v' w w1) := ⟨v1, h3, h4⟩
      clear h3 h4 HB KL
      go_wp2_with fail
      go_end0
      exact ⟨rfl, HR.out⟩
    · have e : (enc (.mk false t ks)).reverse = t.reverse ++ (hdr 128 t.length).reverse := by unfold enc; rw [if_neg (fun h => h2 h.2), List.reverse_append]
      rw [e, ← List.append_assoc]
      have d1 : decide ((128 : Int) ≤ Sp.bz t 0) = true := decide_eq_true (by omega)
      clear hw hz hlen vw hb hbw hbg hbv hc c0 h1 h2 e hg'
      generalize Sp.bz t 0 = X at *
      generalize bs ++ t.reverse ++ (hdr 128 t.length).reverse = Z at *
      generalize t.length = n at *
      go_enter Tryd.func22, Tryd.ntmps22
      go_wp2_with fail
      refine KL.out.mono (fun e w1 he => ?_)
      obtain ⟨rfl, v1, h3, h4⟩ := he
      have cx := HB.out v1 w1 h4
      have KK : Hid _ := KH.out v1 w1 h3 h4
      clear h3 h4 HB KL KH
      go_wp2_with fail
      refine Calls.mono KK.out (fun e w2 he => ?_)
      obtain ⟨rfl, hr⟩ := he
      have HR : Hid _ := hr
      clear hr
      go_wp2_with fail
      go_end0
      exact ⟨rfl, HR.out⟩
  · have e : (enc (.mk false t ks)).reverse = t.reverse ++ (hdr 128 t.length).reverse := by unfold enc; rw [if_neg (fun h => h1 h.1), List.reverse_append]
    rw [e, ← List.append_assoc]
    have d0 : ((t.length : Int) != 1) = true := bne_iff_ne.2 (by omega)
    clear hw hz hlen vw hb hbw hbg hbv h1 e
    generalize bs ++ t.reverse ++ (hdr 128 t.length).reverse = Z at *
    generalize t.length = n at *
    go_enter Tryd.func22, Tryd.ntmps22
    go_wp2_with fail
    refine KL.out.mono (fun e w1 he => ?_)
    obtain ⟨rfl, v1, h3, h4⟩ := he
    have KK : Hid _ := KH.out v1 w1 h3 h4
    clear h3 h4 KL KH
    go_wp2_with fail
    refine Calls.mono KK.out (fun e w2 he => ?_)
    obtain ⟨rfl, hr⟩ := he
    have HR : Hid _ := hr
    clear hr
    go_wp2_with fail
    go_end0
    exact ⟨rfl, HR.out⟩
end Pk
end Go.Proofs.YtnbopclliokkcabDoor
/- lampbearerref.SameItem, of one item twice. -/
namespace Go.Proofs.YtnbopclliokkcabDoor
namespace Pk
open Go.RowKit
set_option maxHeartbeats 400000 in
set_option maxRecDepth 100000 in
theorem same_text (b : List UInt8) (a1 a2 a3 a4 : Option Addr) (n c1 c2 n3 c3 n4 c4 : Nat) (w : World) (h1 : Sl b (.slice a1 n c1) w) (h2 : Sl b (.slice a2 n c2) w) :
    Calls Tryd.prog 7 #[.agg #[.bool false, .slice a1 n c1, .slice a3 n3 c3], .agg #[.bool false, .slice a2 n c2, .slice a4 n4 c4]] w fun e w' => e = .returned (.bool true) ∧ Below w.heap.size w w' := by
  have B1 : Below w.heap.size w ((w.alloc (.cells #[.bool false, .slice a1 n c1, .slice a3 n3 c3] 25)).alloc (.cells #[.bool false, .slice a2 n c2, .slice a4 n4 c4] 25)) := ((Below.refl _ _).alloc (Nat.le_refl _) _).alloc (by simp) _
  have q1 := Sl_conv (Sl_below h1 B1)
  have q2 := Sl_conv (Sl_below h2 B1)
  have B : Hid (Below w.heap.size w ((w.alloc (.cells #[.bool false, .slice a1 n c1, .slice a3 n3 c3] 25)).alloc (.cells #[.bool false, .slice a2 n c2, .slice a4 n4 c4] 25))) := B1
  clear h1 h2 B1
  generalize (⟨b.toArray⟩ : ByteArray) = X at *
  go_enter Tryd.func7, Tryd.ntmps7
  go_wp2_with fail
  go_ret
  exact ⟨rfl, B.out⟩
set_option maxHeartbeats 2000000 in
set_option maxRecDepth 100000 in
theorem same_list (S T : Nat → Prop) (ks : List It) (vs us : List V3) (a1 a2 a3 a4 : Option Addr) (n n1 c1 n2 c2 c3 c4 : Nat) (w : World) (hn : Hid (n = ks.length)) (hl : Hid (vs.length = ks.length)) (hm : Hid (us.length = ks.length)) (hk : Hid (Kx S vs (.slice a3 n c3) w)) (hj : Hid (Kx T us (.slice a4 n c4) w)) (hi : Hid (∀ j, j < ks.length → Iv S w (ks.getD j It.no) (vs.getD j n3))) (hu : Hid (∀ j, j < ks.length → Iv T w (ks.getD j It.no) (us.getD j n3)))
    (IH : Hid (∀ j, j < ks.length → ∀ (v u : V3) (w : World), Iv S w (ks.getD j It.no) v → Iv T w (ks.getD j It.no) u → Calls Tryd.prog 7 #[v3 v, v3 u] w fun e w' => e = .returned (.bool true) ∧ Below w.heap.size w w')) (hz : Hid (n ≤ 4194304)) :
    Calls Tryd.prog 7 #[.agg #[.bool true, .slice a1 n1 c1, .slice a3 n c3], .agg #[.bool true, .slice a2 n2 c2, .slice a4 n c4]] w fun e w' => e = .returned (.bool true) ∧ Below w.heap.size w w' := by
  have B0 : Below w.heap.size w ((w.alloc (.cells #[.bool true, .slice a1 n1 c1, .slice a3 n c3] 25)).alloc (.cells #[.bool true, .slice a2 n2 c2, .slice a4 n c4] 25)) := ((Below.refl _ _).alloc (Nat.le_refl _) _).alloc (by simp) _
  have u1 : ((w.alloc (.cells #[.bool true, .slice a1 n1 c1, .slice a3 n c3] 25)).alloc (.cells #[.bool true, .slice a2 n2 c2, .slice a4 n c4] 25)).cell? ⟨w.heap.size, 2, none⟩ = some (.slice a3 n c3) := by simp [go_sem]
  have u2 : ((w.alloc (.cells #[.bool true, .slice a1 n1 c1, .slice a3 n c3] 25)).alloc (.cells #[.bool true, .slice a2 n2 c2, .slice a4 n c4] 25)).cell? ⟨w.heap.size + 1, 2, none⟩ = some (.slice a4 n c4) := by simp [go_sem]
  have hs0 : w.heap.size + 1 < ((w.alloc (.cells #[.bool true, .slice a1 n1 c1, .slice a3 n c3] 25)).alloc (.cells #[.bool true, .slice a2 n2 c2, .slice a4 n c4] 25)).heap.size := by simp
  go_enter Tryd.func7, Tryd.ntmps7
  go_wp2_with fail
  generalize (w.alloc (.cells #[.bool true, .slice a1 n1 c1, .slice a3 n c3] 25)).alloc (.cells #[.bool true, .slice a2 n2 c2, .slice a4 n c4] 25) = W0 at *
  obtain ⟨g, eg⟩ : ∃ g, g = w.heap.size := ⟨_, rfl⟩
  have EG : Hid (g = w.heap.size) := eg
  rw [← eg] at B0 u1 u2 hs0 ⊢
  clear eg
  go_loopw [31] (fun i wr => ∃ k : Nat, k ≤ n ∧ i = .int .i64 (k : Int) ∧ Below W0.heap.size W0 wr) (fun i _ => ((n : Int) - intOf i).toNat)
  case atStart => exact ⟨0, Nat.zero_le _, rfl, Below.refl _ _⟩
  case round =>
    obtain ⟨k, hkn, rfl, hB⟩ := hrel
    by_cases hlt : k < n
    · have d0 : decide ((k : Int) < (n : Int)) = true := decide_eq_true (by omega)
      have d1 : (0 : Int) ≤ (k : Int) := by omega
      have d2 : (k : Int) < (n : Int) := by omega
      have hks : k < ks.length := by have := hn.out; omega
      obtain ⟨ao, cap, x2, -, hq⟩ := hk.out
      obtain ⟨gk, off, rfl, -, hgk, hcell⟩ := hq (by have := hn.out; have := hl.out; omega)
      injection x2 with x2 x2' x2''
      subst x2
      clear x2' x2''
      obtain ⟨ao, cap, x2, -, hq2⟩ := hj.out
      obtain ⟨gj, og, rfl, -, hgj, hcell2⟩ := hq2 (by have := hn.out; have := hm.out; omega)
      injection x2 with x2 x2' x2''
      subst x2
      clear x2' x2''
      obtain ⟨x0, x1, x2⟩ := hcell k (by have := hl.out; omega)
      obtain ⟨y0', y1', y2'⟩ := hcell2 k (by have := hm.out; omega)
      have iv := hi.out k hks
      have iu := hu.out k hks
      obtain ⟨l, b1, m1, q1, b2, m2, q2, ev⟩ := Iv_form iv
      obtain ⟨r, e1, s1, t1, e2, s2, t2, eu⟩ := Iv_form iu
      rw [ev] at x0 x1 x2 iv
      rw [eu] at y0' y1' y2' iu
      have KB : Hid (∀ w : World, Iv S w (ks.getD k It.no) (.bool l, .slice b1 m1 q1, .slice b2 m2 q2) → Iv T w (ks.getD k It.no) (.bool r, .slice e1 s1 t1, .slice e2 s2 t2) → Calls Tryd.prog 7 #[.agg #[.bool l, .slice b1 m1 q1, .slice b2 m2 q2], .agg #[.bool r, .slice e1 s1 t1, .slice e2 s2 t2]] w fun e w' => e = .returned (.bool true) ∧ Below w.heap.size w w') := IH.out k hks (.bool l, .slice b1 m1 q1, .slice b2 m2 q2) (.bool r, .slice e1 s1 t1, .slice e2 s2 t2)
      have BW : Below w.heap.size w W0 := EG.out ▸ B0
      have y0 := (BW.cell (p := ⟨gk, off + 3 * k, none⟩) hgk).trans x0
      have y1 := (BW.cell (p := ⟨gk, off + 3 * k + 1, none⟩) hgk).trans x1
      have y2 := (BW.cell (p := ⟨gk, off + 3 * k + 2, none⟩) hgk).trans x2
      have z0 := (BW.cell (p := ⟨gj, og + 3 * k, none⟩) hgj).trans y0'
      have z1 := (BW.cell (p := ⟨gj, og + 3 * k + 1, none⟩) hgj).trans y1'
      have z2 := (BW.cell (p := ⟨gj, og + 3 * k + 2, none⟩) hgj).trans y2'
      rw [Nat.mul_comm 3 k] at y0 y1 y2 z0 z1 z2
      have hg1 : gk < W0.heap.size := Nat.lt_of_lt_of_le hgk BW.size
      have hg2 : gj < W0.heap.size := Nat.lt_of_lt_of_le hgj BW.size
      have hs2 : g + 1 < W0.heap.size := hs0
      have hs1 : g < W0.heap.size := Nat.lt_of_succ_lt hs0
      have IA : Hid (Iv S W0 (ks.getD k It.no) (.bool l, .slice b1 m1 q1, .slice b2 m2 q2)) := Iv_gb (r := none) iv (gb_below BW) (fun _ _ => nofun)
      have IB : Hid (Iv T W0 (ks.getD k It.no) (.bool r, .slice e1 s1 t1, .slice e2 s2 t2)) := Iv_gb (r := none) iu (gb_below BW) (fun _ _ => nofun)
      have e5 : Hid (wrap64 ((k : Int) + 1) = ((k + 1 : Nat) : Int)) := by have := hz.out; show _ = _; unfold wrap64; omega
      clear hq hq2 hcell hcell2 x0 x1 x2 y0' y1' y2' ev eu hks iv iu BW
      go_upto_region 10 with fail
      refine RH.wp_region_genI (fun _ _ => Below W0.heap.size W0) [0, 0, 0, 0, 0, 0, 0, 0, 0, 0, 0, 2] (by kernel_rfl) (by kernel_rfl) (hB.drew) ?_
      dsimp only [List.toList_toArray]
      refine RH.goD (v := ?_) (f' := ?_) rfl ?_ ?_ ?_
      rotate_left 2
      · intro U K d wx hI hmay hK
        go_simp
        exact hK _ (hI)
      · intro U
        simp only [Act.put, List.setIfInBounds_toArray, List.set_cons_succ, List.set_cons_zero]
        rfl
      refine RH.goD (v := ?_) (f' := ?_) rfl ?_ ?_ ?_
      rotate_left 2
      · intro U K d wx hI hmay hK
        have c0 := (hI.cell (p := ⟨g, 2, none⟩) hs1).trans u1
        go_simp
        exact hK _ (hI)
      · intro U
        simp only [Act.put, List.setIfInBounds_toArray, List.set_cons_succ, List.set_cons_zero]
        rfl
      refine RH.goD (v := ?_) (f' := ?_) rfl ?_ ?_ ?_
      rotate_left 2
      · intro U K d wx hI hmay hK
        go_simp
        exact hK _ (hI)
      · intro U
        simp only [Act.put, List.setIfInBounds_toArray, List.set_cons_succ, List.set_cons_zero]
        rfl
      refine RH.goD (v := ?_) (f' := ?_) rfl ?_ ?_ ?_
      rotate_left 2
      · intro U K d wx hI hmay hK
        have e1 := d1
        have e2 := d2
        go_simp
        exact hK _ (hI)
      · intro U
        simp only [Act.put, List.setIfInBounds_toArray, List.set_cons_succ, List.set_cons_zero]
        rfl
      refine RH.goD (v := ?_) (f' := ?_) rfl ?_ ?_ ?_
      rotate_left 2
      · intro U K d wx hI hmay hK
        have c0 := (hI.cell (p := ⟨gk, off + k * 3, none⟩) hg1).trans y0
        have c1 := (hI.cell (p := ⟨gk, off + k * 3 + 1, none⟩) hg1).trans y1
        have c2 := (hI.cell (p := ⟨gk, off + k * 3 + 2, none⟩) hg1).trans y2
        go_simp
        exact hK _ (hI)
      · intro U
        simp only [Act.put, List.setIfInBounds_toArray, List.set_cons_succ, List.set_cons_zero]
        rfl
      refine RH.goD (v := ?_) (f' := ?_) rfl ?_ ?_ ?_
      rotate_left 2
      · intro U K d wx hI hmay hK
        go_simp
        exact hK _ (hI)
      · intro U
        simp only [Act.put, List.setIfInBounds_toArray, List.set_cons_succ, List.set_cons_zero]
        rfl
      refine RH.goD (v := ?_) (f' := ?_) rfl ?_ ?_ ?_
      rotate_left 2
      · intro U K d wx hI hmay hK
        have c0 := (hI.cell (p := ⟨g + 1, 2, none⟩) hs2).trans u2
        go_simp
        exact hK _ (hI)
      · intro U
        simp only [Act.put, List.setIfInBounds_toArray, List.set_cons_succ, List.set_cons_zero]
        rfl
      refine RH.goD (v := ?_) (f' := ?_) rfl ?_ ?_ ?_
      rotate_left 2
      · intro U K d wx hI hmay hK
        go_simp
        exact hK _ (hI)
      · intro U
        simp only [Act.put, List.setIfInBounds_toArray, List.set_cons_succ, List.set_cons_zero]
        rfl
      refine RH.goD (v := ?_) (f' := ?_) rfl ?_ ?_ ?_
      rotate_left 2
      · intro U K d wx hI hmay hK
        have e1 := d1
        have e2 := d2
        go_simp
        exact hK _ (hI)
      · intro U
        simp only [Act.put, List.setIfInBounds_toArray, List.set_cons_succ, List.set_cons_zero]
        rfl
      refine RH.goD (v := ?_) (f' := ?_) rfl ?_ ?_ ?_
      rotate_left 2
      · intro U K d wx hI hmay hK
        have c0 := (hI.cell (p := ⟨gj, og + k * 3, none⟩) hg2).trans z0
        have c1 := (hI.cell (p := ⟨gj, og + k * 3 + 1, none⟩) hg2).trans z1
        have c2 := (hI.cell (p := ⟨gj, og + k * 3 + 2, none⟩) hg2).trans z2
        go_simp
        exact hK _ (hI)
      · intro U
        simp only [Act.put, List.setIfInBounds_toArray, List.set_cons_succ, List.set_cons_zero]
        rfl
      refine RH.goD (v := ?_) (f' := ?_) rfl ?_ ?_ ?_
      rotate_left 2
      · intro U K d wx hI hmay hK
        go_simp
        refine (KB.out _ (Iv_below IA.out hI) (Iv_below IB.out hI)).mono (fun e w2 he => ?_)
        refine ⟨_, he.1, ?_⟩
        exact hK _ (hI.trans (he.2.mono hI.size))
      · intro U
        simp only [Act.put, List.setIfInBounds_toArray, List.set_cons_succ, List.set_cons_zero]
        rfl
      refine RH.goT ?_
      refine RH.go_end ?_
      intro d7 U7 w7 m7 h7
      simp +decide only [RH.tl, if_true, if_false]
      clear h7
      go_wp2_with fail
      rw [e5.out]
      exact ⟨⟨k + 1, hlt, rfl, m7⟩, msr_up k n hlt⟩
    · have d0 : decide ((k : Int) < (n : Int)) = false := decide_eq_false (by omega)
      have BF : Hid (Below w.heap.size w wr) := (EG.out ▸ B0).trans (hB.mono (by have := EG.out; omega))
      go_wp2_with fail
      go_ret
      exact ⟨rfl, BF.out⟩
theorem same_any {t : It} (hs : Sm t) : ∀ (S T : Nat → Prop) (v u : V3) (w : World), Iv S w t v → Iv T w t u → Calls Tryd.prog 7 #[v3 v, v3 u] w fun e w' => e = .returned (.bool true) ∧ Below w.heap.size w w' := by
  induction hs with
  | mk l t ks s1 s2 s3 ih =>
    intro S T v u w hv hu
    cases hv with
    | mk l t ks tv kv vs ht hl hk hi =>
      cases hu with
      | mk l t ks tu ku us ht2 hl2 hk2 hi2 =>
        have ht' := Ty_sl ht
        have ht2' := Ty_sl ht2
        have hk' := hk
        have hk2' := hk2
        obtain ⟨a1, c1, rfl, _⟩ := ht
        obtain ⟨a2, c2, rfl, _⟩ := ht2
        obtain ⟨a3, c3, rfl, _⟩ := hk
        obtain ⟨a4, c4, rfl, _⟩ := hk2
        rw [hl] at hk' ⊢
        rw [hl2] at hk2' ⊢
        cases l with
        | false => exact same_text t a1 a2 a3 a4 _ c1 c2 _ c3 _ c4 w ht' ht2'
        | true => exact same_list S T ks vs us a1 a2 a3 a4 ks.length _ c1 _ c2 c3 c4 w rfl hl hl2 hk' hk2' hi hi2 (fun j hj v u w h h' => ih j hj S T v u w h h') s2
end Pk
end Go.Proofs.YtnbopclliokkcabDoor
/- slices.Backward of items. -/
namespace Go.Proofs.YtnbopclliokkcabDoor
namespace Pk
open Go.RowKit Go.Shelf
attribute [local go_sem] Oper.semAt_some
/-- Places from the last one on. -/
def dn (n : Nat) (k : Nat) : Nat := n - 1 - k
theorem upto_dn (n : Nat) : upto (dn n) n = (List.range n).reverse := by
  apply List.ext_getElem
  · simp [upto]
  · intro i h1 h2
    simp [upto, dn]
/-- An item's three values. -/
def Fm (v : V3) : Prop := ∃ l b1 m1 q1 b2 m2 q2, v = (.bool l, .slice b1 m1 q1, .slice b2 m2 q2)
set_option maxRecDepth 100000 in
set_option maxHeartbeats 2000000 in
theorem bwi1_in (F : Fence) (n : Nat) (hf : F.fn 33) (hro : F.round = none) (hn : 1 ≤ n) (l Bs b off cap : Nat) (vs : List V3) (hreach : vs.length ≤ 4194304) (hfm : ∀ j, j < vs.length → Fm (vs.getD j n3)) (J Jx : List (Fin vs.length) → World → Prop)
    (hY : ∀ pre (x : Fin vs.length) W, J pre W → pre.length < vs.length → YieldAt F (n - 1) Tryd.prog l #[.int .i64 (x.1 : Int), v3 (vs.getD x.1 n3)] W fun e W' =>
      (e = .returned (.bool true) ∧ J (pre ++ [x]) W' ∧ Kp2 Bs b W W') ∨ (e = .returned (.bool false) ∧ Jx (pre ++ [x]) W'))
    (W : World) (hBs : W.cell? ⟨Bs, 0, none⟩ = some (.slice (some ⟨b, off, none⟩) vs.length cap))
    (hc : ∀ j, j < vs.length → W.cell? ⟨b, off + 3 * j, none⟩ = some (vs.getD j n3).1 ∧ W.cell? ⟨b, off + 3 * j + 1, none⟩ = some (vs.getD j n3).2.1 ∧ W.cell? ⟨b, off + 3 * j + 2, none⟩ = some (vs.getD j n3).2.2) (h0 : J [] W) :
    CallsIn F n Tryd.prog 33 #[.func (.yield l) #[] #[], .pointer (some ⟨Bs, 0, none⟩)] W fun e W' => (∃ v, e = .returned v) ∧
      ((∃ ys : List (Fin vs.length), ys.map (·.1) = upto (dn vs.length) vs.length ∧ J ys W') ∨ (∃ pre, Jx pre W')) := by
  refine callsIn_of_wp Tryd.func33 rfl hf ?_ hro
  simp only [Tryd.ntmps33, List.size_toArray, List.length_cons, List.length_nil, Nat.reduceAdd, Nat.reduceSub, Array.replicate_succ, Array.replicate_zero, List.push_toArray, List.append_toArray, List.nil_append, List.cons_append]
  have hw0 := (bwd_wrap vs.length hreach).out
  gi_wp2
  clear hw0
  gi_loopw [3] (fun i wr => ∃ k : Nat, k ≤ vs.length ∧ i = .int .i64 ((vs.length - k : Nat) - 1 : Int) ∧ (∃ pre : List (Fin vs.length), pre.map (·.1) = upto (dn vs.length) k ∧ J pre wr) ∧ Kp2 Bs b W wr)
    (fun i _ => (intOf i + 1).toNat)
  case atStart => exact ⟨0, Nat.zero_le _, by simp, ⟨[], rfl, h0⟩, fun o => ⟨rfl, rfl⟩⟩
  case round =>
    obtain ⟨k, hk, rfl, ⟨pre, hpre, hJs⟩, hkp⟩ := hrel
    have hBs' : wr.cell? ⟨Bs, 0, none⟩ = some (.slice (some ⟨b, off, none⟩) vs.length cap) := (hkp 0).1.trans hBs
    by_cases hlt : k < vs.length
    · obtain ⟨j, hj⟩ : ∃ j, vs.length - k = j + 1 := ⟨vs.length - k - 1, by omega⟩
      have ei : (((vs.length - k : Nat) : Int) - 1) = (j : Int) := by omega
      have HJ : Hid (vs.length - k = j + 1) := hj
      have hjn : j < vs.length := by omega
      have hjl : (j : Int) < (vs.length : Int) := by omega
      have hj0 : (0 : Int) ≤ (j : Int) := by omega
      have hjd : decide ((0 : Int) ≤ (j : Int)) = true := decide_eq_true hj0
      have hpl : pre.length = k := by rw [← List.length_map (f := (·.1)), hpre, upto_length]
      have HB : Hid ((pre ++ [(⟨j, hjn⟩ : Fin vs.length)]).map (·.1) = upto (dn vs.length) (k + 1)) := by
        show _ = _
        rw [List.map_append, hpre, upto_succ]
        congr 1
        show [j] = [dn vs.length k]
        unfold dn
        congr 1
        omega
      have Y := hY _ (⟨j, hjn⟩ : Fin vs.length) wr hJs (by omega)
      obtain ⟨c0, c1, c2⟩ := hc j hjn
      obtain ⟨lb, b1, m1, q1, b2, m2, q2, ev⟩ := hfm j hjn
      have x0 := ((hkp (off + 3 * j)).2.trans c0)
      have x1 := ((hkp (off + 3 * j + 1)).2.trans c1)
      have x2 := ((hkp (off + 3 * j + 2)).2.trans c2)
      dsimp only at Y
      rw [ev] at x0 x1 x2 Y
      rw [Nat.mul_comm 3 j] at x0 x1 x2
      obtain ⟨fn, tmps, assign, body, hy, hR⟩ := Y
      dsimp only [v3] at hy
      have hw := (bwd_wrap j (by omega)).out
      rw [ei]
      have HPL : Hid (pre.length = k) := hpl
      clear hj ei hpre hpl c0 c1 c2 ev
      gi_wp2
      refine hR.mono ?_
      rintro e W3 (⟨rfl, hJ3, hk3⟩ | ⟨rfl, hJx3⟩)
      · gi_wp2
        go_roundw
        case rel => exact ⟨k + 1, hlt, by have := HJ.out; first | rfl | (congr 1; omega) | (rw [hw]; congr 1; omega), ⟨_, HB.out, hJ3⟩, Kp2_t hkp hk3⟩
        case measure => simp [intOf] <;> omega
      · gi_wp2
        refine bodyPost_ret (results_none rfl _ _ _) rfl ?_
        exact ⟨⟨_, rfl⟩, .inr ⟨_, hJx3⟩⟩
    · obtain rfl : k = vs.length := by omega
      have ei : (((vs.length - vs.length : Nat) : Int) - 1) = -1 := by omega
      rw [ei]
      gi_wp2
      go_end0
      exact ⟨⟨_, rfl⟩, .inl ⟨_, hpre, hJs⟩⟩
set_option maxRecDepth 100000 in
set_option maxHeartbeats 1000000 in
theorem bwi1_nil_in (F : Fence) (n : Nat) (hf : F.fn 33) (hro : F.round = none) (l Bs : Nat) (a : Option Addr) (cap : Nat) {α : Type} (J : List α → World → Prop) (W : World) (hBs : W.cell? ⟨Bs, 0, none⟩ = some (.slice a 0 cap)) (h0 : J [] W) :
    CallsIn F n Tryd.prog 33 #[.func (.yield l) #[] #[], .pointer (some ⟨Bs, 0, none⟩)] W fun e W' => (∃ v, e = .returned v) ∧ J [] W' := by
  refine callsIn_of_wp Tryd.func33 rfl hf ?_ hro
  simp only [Tryd.ntmps33, List.size_toArray, List.length_cons, List.length_nil, Nat.reduceAdd, Nat.reduceSub, Array.replicate_succ, Array.replicate_zero, List.push_toArray, List.append_toArray, List.nil_append, List.cons_append]
  gi_wp2
  gi_loopw [3] (fun i wr => i = .int .i64 (-1) ∧ J [] wr) (fun _ _ => 0)
  case atStart => exact ⟨rfl, h0⟩
  case round =>
    obtain ⟨rfl, hJs⟩ := hrel
    gi_wp2
    go_end0
    exact ⟨⟨_, rfl⟩, hJs⟩
set_option maxHeartbeats 1000000 in
theorem bwi_in (F : Fence) (n : Nat) (hf : F.fn 23) (hro : F.round = none) (a : Option Addr) (len cap : Nat) (w : World) :
    CallsIn F n Tryd.prog 23 #[.slice a len cap] w fun e w' => e = .returned (.func (.func 33) #[] #[.pointer (some ⟨w.heap.size, 0, none⟩)]) ∧ w' = w.alloc (.cells #[.slice a len cap] 23) := by
  refine callsIn_of_wp Tryd.func23 rfl hf ?_ hro
  simp only [Tryd.ntmps23, List.size_toArray, List.length_cons, List.length_nil, Nat.reduceAdd, Nat.reduceSub, Array.replicate_succ, Array.replicate_zero, List.push_toArray, List.append_toArray, List.nil_append, List.cons_append]
  gi_wp2
  go_ret
  exact ⟨rfl, rfl⟩
/-- The items come from the last one on; two blocks are kept between rounds. -/
theorem bwi_stops (F : Fence) (n : Nat) (hf : F.fn 33) (hro : F.round = none) (hn : 1 ≤ n) (Bs b cap : Nat) (ao : Option Addr) (vs : List V3) (hreach : vs.length ≤ 4194304) (hfm : ∀ j, j < vs.length → Fm (vs.getD j n3)) (w : World) (hBs : Bs < w.heap.size)
    (hc : w.cell? ⟨Bs, 0, none⟩ = some (.slice ao vs.length cap)) (hb : 0 < vs.length → ∃ off, ao = some ⟨b, off, none⟩ ∧ b < w.heap.size ∧ ∀ j, j < vs.length → w.cell? ⟨b, off + 3 * j, none⟩ = some (vs.getD j n3).1 ∧ w.cell? ⟨b, off + 3 * j + 1, none⟩ = some (vs.getD j n3).2.1 ∧ w.cell? ⟨b, off + 3 * j + 2, none⟩ = some (vs.getD j n3).2.2) :
    SeqStopsK F n Tryd.prog 33 #[.pointer (some ⟨Bs, 0, none⟩)] (fun x : Fin vs.length => #[Value.int .i64 (x.1 : Int), v3 (vs.getD x.1 n3)]) (Kp2 Bs b) (fun ys => ys.map (·.1) = (List.range vs.length).reverse) (fun _ => True) vs.length w := fun l J Jx W hW _ _ hY h0 => by
  have hc' := (hW.cell (p := ⟨Bs, 0, none⟩) hBs).trans hc
  by_cases h1 : 0 < vs.length
  · obtain ⟨off, rfl, hg, hcs⟩ := hb h1
    refine (bwi1_in F n hf hro hn l Bs b off cap vs hreach hfm J Jx hY W hc' (fun j hj => ⟨(hW.cell (p := ⟨b, off + 3 * j, none⟩) hg).trans (hcs j hj).1, (hW.cell (p := ⟨b, off + 3 * j + 1, none⟩) hg).trans (hcs j hj).2.1, (hW.cell (p := ⟨b, off + 3 * j + 2, none⟩) hg).trans (hcs j hj).2.2⟩) h0).mono ?_
    rintro e W' ⟨he, ⟨ys, hy, hj⟩ | ⟨pre, hj⟩⟩
    · exact ⟨he, .inl ⟨_, hy.trans (upto_dn _), hj⟩⟩
    · exact ⟨he, .inr ⟨_, trivial, hj⟩⟩
  · have e : vs = [] := List.length_eq_zero_iff.1 (by omega)
    subst e
    exact (bwi1_nil_in F n hf hro l Bs ao cap J W hc' h0).mono fun e W' ⟨he, hj⟩ => ⟨he, .inl ⟨[], rfl, hj⟩⟩
end Pk
end Go.Proofs.YtnbopclliokkcabDoor
