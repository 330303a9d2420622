/- lampbearerref.routes: a road. -/
import Derived.Test.YtcpgcdffienobaaPackD
import Derived.Deep.Cut
import Derived.Test.YtcpgcdffienobaaPackC
import Derived.Test.YtcpgcdffienobaaPackA
import Derived.ProofKit
import Derived.OpenShut
import Derived.ShutString
import Derived.ChangeOld
import Derived.Laws.IdiomArrays
import Derived.Lib.SmallJoins
namespace Go.Proofs.Ytcpgcdffienobaa
namespace Tr
open Nb Go.RowKit
inductive RDI (W0 : World) (G : Value → World → Prop) (ok : Bool) (a1 a2 : Option Addr) (n1 c1 n2 c2 c3 gk off g0 j : Nat) (q : Int) (b1 b2 b3 : Option Addr) (m1 d1 m2 d2 m3 d3 : Nat) (X Y Z : ByteArray) (v7 v18 v19 v20 v21 v22 v23 v24 v25 v26 v27 v28 v29 v30 v31 v32 : Value) (d : Nat → Bool) (x : Act) (wx : World) : Prop where
  | mk (u4 u5 u61 u62 u63 u64 u65 u66 u67 u68 u69 u70 u71 u72 : Value) (hx : x = { tmps := #[.agg #[.int .i64 2, .slice a1 n1 c1, .slice a2 n2 c2, .slice (some ⟨gk, off, none⟩) 1 c3], .string X, .pointer (some ⟨g0, 0, none⟩), undef, u4, u5, undef, v7, undef, undef, undef, undef, undef, .pointer (some ⟨g0, 1, none⟩), .slice a1 n1 c1, .int .i64 (n1 : Int), .int .i64 (j : Int), .bool false, v18, v19, v20, v21, v22, v23, v24, v25, v26, v27, v28, v29, v30, v31, v32, .bool false, .pointer (some ⟨g0, 0, none⟩), .int .i64 2, .bool false, .bool false, .pointer (some ⟨g0, 0, none⟩), .int .i64 2, .bool false, undef, undef, undef, undef, undef, undef, undef, undef, undef, undef, .bool true, .pointer (some ⟨g0, 0, none⟩), .int .i64 2, .bool true, .bool true, .pointer (some ⟨g0, 3, none⟩), .slice (some ⟨gk, off, none⟩) 1 c3, .int .i64 1, .bool true, .bool true, u61, u62, u63, u64, u65, u66, u67, u68, u69, u70, u71, u72, undef, undef, undef, undef, undef, undef, undef, undef, undef, undef, undef, undef, undef, undef, undef, undef, undef, undef, undef, undef, undef, undef, undef, undef, undef, undef, undef, undef, undef, undef, undef, undef, undef, undef, undef, undef, undef, undef, undef, undef, undef, undef, undef, undef, undef, undef, undef, undef], defers := [] }) (hw : Below W0.heap.size W0 wx) (p0 : d 0 = true → u61 = .pointer (some ⟨g0, 3, none⟩)) (p1 : d 1 = true → u62 = .slice (some ⟨gk, off, none⟩) 1 c3) (p2 : d 2 = true → u63 = .pointer (some ⟨gk, off, none⟩)) (p3 : d 3 = true → u64 = .agg #[.int .i64 q, .slice b1 m1 d1, .slice b2 m2 d2, .slice b3 m3 d3]) (p4 : d 4 = true → u65 = .string X) (p5 : d 5 = true → u66 = .pointer (some ⟨g0, 1, none⟩)) (p6 : d 6 = true → u67 = .slice a1 n1 c1) (p7 : d 7 = true → u68 = .string Y) (p8 : d 8 = true → u69 = .string Z) (p11 : d 11 = true → u72 = .bool ok) (p13 : d 13 = true → u5 = .bool ok) (z9 : d 9 = true → ∃ x, u70 = .tuple #[x, .bool ok] ∧ G x wx) (z10 : d 10 = true → G u71 wx) (z12 : d 12 = true → G u4 wx) : RDI W0 G ok a1 a2 n1 c1 n2 c2 c3 gk off g0 j q b1 b2 b3 m1 d1 m2 d2 m3 d3 X Y Z v7 v18 v19 v20 v21 v22 v23 v24 v25 v26 v27 v28 v29 v30 v31 v32 d x wx
end Tr
end Go.Proofs.Ytcpgcdffienobaa
/- lampbearerref.routes: a fork. -/
namespace Go.Proofs.Ytcpgcdffienobaa
namespace Tr
open Nb Go.RowKit
theorem wpList_apw {P : Program} {ops : Array Oper} {rest : List Oper} {o : Oper} {a : Act} {Q : Exit → Act → World → Prop} {s x : Operand} {t u : TypeId} {v v2 v' : Value} {w w' : World} (hgd : o.guard = none) (ho : o.op = .call { callee := .builtin .append, args := #[s, x], argTypes := #[t, u] }) (hs : a.eval s = v) (hx : a.eval x = v2)
    (hr : (Builtin.append_ #[t, u] o.type #[v, v2]).run P w = .ok v' w') (h : wpList P ops Q rest (a.put o.dst v') w') : wpList P ops Q (o :: rest) a w := by
  refine wpList_plain hgd fun _ hK => ?_
  unfold Oper.wp execOp
  simp only [ho, resolve, invoke, builtin, Sem.run_bind, Sem.run_pure, Result.andThen_ok, List.map_toArray, List.map_cons, List.map_nil, hs, hx, hr]
  exact hK _ _ h
theorem pre_pre (p q : By) (l : Rt) : pre p (pre q l) = pre (p ++ q) l := by
  unfold pre
  rw [List.map_map]
  apply List.map_congr_left
  intro r _
  show (p ++ (q ++ r.1), r.2) = (p ++ q ++ r.1, r.2)
  rw [List.append_assoc]
theorem pre_app (p : By) (a b : Rt) : pre p (a ++ b) = pre p a ++ pre p b := by simp [pre]
theorem pre_len' (p : By) (a : Rt) : (pre p a).length = a.length := by simp [pre]
theorem rtk_snoc (t : Nd) : ∀ (ks : List Nd) (i : Nat), rtk i (ks ++ [t]) = match rtk i ks, rt t with
    | some L, some a => some (L ++ pre [UInt8.ofNat (i + ks.length)] a)
    | _, _ => none
  | [], i => by
    show rtk i [t] = _
    unfold rtk
    cases h : rt t with
    | none => simp
    | some a => simp [rtk]
  | k :: ks, i => by
    rw [List.cons_append]
    unfold rtk
    rw [rtk_snoc t ks (i + 1)]
    cases rt k with
    | none => rfl
    | some a =>
      cases rtk (i + 1) ks with
      | none => rfl
      | some L =>
        cases rt t with
        | none => rfl
        | some b =>
          show some (pre [UInt8.ofNat i] a ++ (L ++ pre [UInt8.ofNat (i + 1 + ks.length)] b)) = some ((pre [UInt8.ofNat i] a ++ L) ++ pre [UInt8.ofNat (i + (k :: ks).length)] b)
          rw [List.append_assoc, List.length_cons, show i + 1 + ks.length = i + (ks.length + 1) by omega]
theorem rtk_bad : ∀ (ks : List Nd) (i k : Nat), k < ks.length → rt (ks.getD k Nd.no) = none → rtk i ks = none
  | [], _, k, h, _ => absurd h (by simp)
  | t :: r, i, 0, _, h => by
    rw [List.getD_cons_zero] at h
    unfold rtk
    rw [h]
  | t :: r, i, k + 1, hk, h => by
    rw [List.getD_cons_succ] at h
    have := rtk_bad r (i + 1) k (by simpa using hk) h
    unfold rtk
    rw [this]
    cases rt t <;> rfl
theorem rtk_take (ks : List Nd) (k : Nat) (hk : k < ks.length) (L a : Rt) (hL : rtk 0 (ks.take k) = some L) (ha : rt (ks.getD k Nd.no) = some a) : rtk 0 (ks.take (k + 1)) = some (L ++ pre [UInt8.ofNat k] a) := by
  have e : ks.take (k + 1) = ks.take k ++ [ks.getD k Nd.no] := by
    rw [List.take_add_one, List.getD_eq_getElem?_getD, List.getElem?_eq_getElem hk]
    rfl
  rw [e, rtk_snoc, hL, ha, List.length_take, show 0 + min k ks.length = k by omega]
theorem rt_three (p v : By) (ks : List Nd) (hl : ks.length = 16) : rt (.mk 3 p v ks) = (rtk 0 ks).map fun l => (if v = [] then [] else [([], v)]) ++ l := by
  rw [rt, if_neg (fun h => by rcases h.1 with h | h <;> exact absurd h (by decide)), if_neg (by decide), if_neg (by decide), if_neg (fun h => absurd h.1 (by decide)), if_pos ⟨rfl, hl⟩]
theorem lit_b (k : Nat) (h : k < 16) (w : World) : Pk.Sl [UInt8.ofNat k] (.slice (some ⟨w.heap.size, 0, none⟩) 1 1) (w.alloc (.cells #[.int .u8 (k : Int)] 5)) := by
  have HA := heap_alloc_new w (.cells #[.int .u8 (k : Int)] 5)
  refine ⟨_, _, rfl, Nat.le_refl _, fun _ => ⟨_, _, rfl, by simp, fun j hj => ?_⟩⟩
  have e : j = 0 := by simpa using hj
  subst e
  have e2 : Sp.bz [UInt8.ofNat k] 0 = (k : Int) := by
    show (((UInt8.ofNat k).toNat : Nat) : Int) = _
    rw [u8_toNat k h]
  rw [e2]
  simp only [World.cell?, HA]
  rfl
/-- What routes answers. -/
def RT (t : Nd) (P : By) (e : Ending) (w : World) : Prop := (∃ l x, rt t = some l ∧ e = .returned (.tuple #[x, .bool true]) ∧ Rv (pre P l) x w) ∨ (rt t = none ∧ e = .returned (.tuple #[.slice none 0 0, .bool false]))
end Tr
end Go.Proofs.Ytcpgcdffienobaa
/- lampbearerref.routes at every node. -/
namespace Go.Proofs.Ytcpgcdffienobaa
namespace Tr
open Nb Go.RowKit
mutual
/-- What a node weighs: all that it holds. -/
def wn : Nd → Nat
  | .mk _ p v ks => 4 + p.length + v.length + wnk ks
def wnk : List Nd → Nat
  | [] => 0
  | t :: r => wn t + wnk r
end
theorem wnk_one : ∀ (ks : List Nd) (j : Nat), j < ks.length → wn (ks.getD j Nd.no) ≤ wnk ks
  | [], j, h => absurd h (by simp)
  | k :: r, 0, _ => by unfold wnk; rw [List.getD_cons_zero]; omega
  | k :: r, j + 1, h => by
    have := wnk_one r j (by simpa using h)
    unfold wnk
    rw [List.getD_cons_succ]; omega
theorem wnk_take : ∀ (ks : List Nd) (j : Nat), j < ks.length → wnk (ks.take j) + wn (ks.getD j Nd.no) ≤ wnk ks
  | [], j, h => absurd h (by simp)
  | k :: r, 0, _ => by rw [List.take_zero, List.getD_cons_zero]; unfold wnk; omega
  | k :: r, j + 1, h => by
    have := wnk_take r j (by simpa using h)
    rw [List.take_succ_cons, List.getD_cons_succ]
    unfold wnk
    omega
theorem rtk_count : ∀ (ks : List Nd) (i : Nat) (L : Rt), (∀ j, j < ks.length → ∀ a, rt (ks.getD j Nd.no) = some a → a.length ≤ wn (ks.getD j Nd.no)) → rtk i ks = some L → L.length ≤ wnk ks
  | [], i, L, _, h => by unfold rtk at h; cases h; exact Nat.zero_le _
  | t :: r, i, L, hk, h => by
    unfold rtk at h
    cases ha : rt t with
    | none => rw [ha] at h; cases h
    | some a =>
      cases hb : rtk (i + 1) r with
      | none => rw [ha, hb] at h; cases h
      | some b =>
        rw [ha, hb] at h
        cases h
        have h1 := hk 0 (by simp) a (by rw [List.getD_cons_zero]; exact ha)
        rw [List.getD_cons_zero] at h1
        have h2 := rtk_count r (i + 1) b (fun j hj c hc => by
          have := hk (j + 1) (by simpa using hj) c
          rw [List.getD_cons_succ] at this
          exact this hc) hb
        unfold wnk
        rw [List.length_append, pre_len']
        omega
theorem rt_two (p v : By) (t : Nd) (hp : Pt p) : rt (.mk 2 p v [t]) = (rt t).map (pre p) := by
  rw [rt, if_neg (fun h => by rw [(ptb_iff p).2 hp] at h; cases h.2), if_neg (by decide), if_neg (by decide), if_pos ⟨rfl, rfl⟩, rt0]
theorem rt_count {t : Nd} (h : Wf t) : ∀ l, rt t = some l → l.length ≤ wn t := by
  induction h with
  | mk k p v ks _ ih =>
    intro l h
    unfold rt at h
    split at h
    · cases h
    split at h
    · cases h; exact Nat.zero_le _
    split at h
    · cases h
      unfold wn
      rw [List.length_singleton]; omega
    split at h
    · rename_i h2
      obtain ⟨t, rfl⟩ := List.length_eq_one_iff.1 h2.2
      rw [rt0] at h
      cases ha : rt t with
      | none => rw [ha] at h; cases h
      | some a =>
        rw [ha] at h
        cases h
        have := ih 0 (by simp) a ha
        rw [List.getD_cons_zero] at this
        unfold wn wnk wnk
        rw [pre_len']; omega
    split at h
    · rename_i h3
      cases ha : rtk 0 ks with
      | none => rw [ha] at h; cases h
      | some a =>
        rw [ha] at h
        cases h
        have := rtk_count ks 0 a ih ha
        unfold wn
        rw [List.length_append]
        split
        · rw [List.length_nil]; omega
        · rw [List.length_singleton]; omega
    · cases h
theorem rt_none_bad (k : Int) (p v : By) (ks : List Nd) (hk : k = 1 ∨ k = 2) (hp : ¬ Pt p) : rt (.mk k p v ks) = none := by
  rw [rt, if_pos ⟨hk, by cases h : ptb p with | false => rfl | true => exact absurd ((ptb_iff p).1 h) hp⟩]
end Tr
end Go.Proofs.Ytcpgcdffienobaa
/- A node that came in. -/
namespace Go.Proofs.Ytcpgcdffienobaa
namespace Tr
open Nb Go.ChangeShapes Go.WideShapes Go.ChangeAt Go.RowKit
theorem wnk_many : ∀ ks : List Nd, ks.length ≤ wnk ks
  | [] => Nat.zero_le _
  | .mk k p v js :: r => by
    have := wnk_many r
    unfold wnk wn
    rw [List.length_cons]; omega
theorem sm_wn {t : Nd} (h : Wf t) : wn t ≤ 4194304 → Sm t := by
  induction h with
  | mk k p v ks _ ih =>
    intro hw
    unfold wn at hw
    have h1 := wnk_many ks
    exact .mk k p v ks (by omega) (fun j hj => ih j hj (by have := wnk_one ks j hj; omega))
theorem blk1 {H : Type} (d : DataW H) : 1 ≤ Rows.uptoBulk d := by
  unfold Rows.uptoBulk
  split <;> omega
theorem blkN {H : Type} : ∀ l : List (DataW H), l.length ≤ Rows.uptoBulkAll l
  | [] => Nat.zero_le _
  | d :: r => by
    have h1 := blk1 d
    have h2 := blkN r
    rw [Rows.uptoBulkAll, List.length_cons]
    omega
theorem wnk_blk {H : Type} (G : Nat → Nd) (D : Nat → DataW H) : ∀ l : List Nat, (∀ i, i ∈ l → wn (G i) ≤ Rows.uptoBulk (D i)) → wnk (l.map G) ≤ Rows.uptoBulkAll (l.map D)
  | [], _ => Nat.zero_le _
  | i :: r, h => by
    have h1 := h i (List.mem_cons_self ..)
    have h2 := wnk_blk G D r (fun j hj => h j (List.mem_cons_of_mem _ hj))
    rw [List.map_cons, List.map_cons, Rows.uptoBulkAll]
    unfold wnk
    omega
set_option maxRecDepth 100000 in
/-- A text, by its cells. -/
theorem text_of {H : Type} {enc : TypeId × Value → H} {W : World} {fuel : Nat} {cs : List Value} {x : DataW H × List MemPlace} (hf : DataW.trod enc Try.prog W 0 (fun _ => true) true fuel 24 cs = some x) :
    ∃ (b : By) (v : Value), cs = [v] ∧ Bs (· < W.heap.size) b v W ∧ b.length + 1 ≤ Rows.uptoBulk x.1 := by
  rcases open_ints Try.underlying24 Try.underlying5 Sp.cellsU8 hf with ⟨hcs, hx⟩ | ⟨a, len, cap, zs, hcs, _, hl, hm, hz, hx, hcell, hwz⟩
  · subst hcs
    exact ⟨[], _, rfl, Bs_nil _ _, blk1 _⟩
  · subst hcs
    simp only [if_true] at hz
    have hb : ∀ z ∈ zs, 0 ≤ z ∧ z < 256 := fun z hz' => by have := bounds_u8 (hwz z hz'); omega
    have hb' : ∀ z ∈ zs.take len, 0 ≤ z ∧ z < 256 := fun z hz' => hb z (List.mem_of_mem_take hz')
    have hlt : (Sp.ub (zs.take len)).length = len := by rw [Sp.ub_length, List.length_take]; omega
    refine ⟨Sp.ub (zs.take len), _, rfl, ⟨some a, cap, by rw [hlt], by rw [hlt]; exact hl, fun h0 => ?_⟩, ?_⟩
    · rw [hlt] at h0
      obtain ⟨b, off, rfl, hc⟩ := ints_at hcell (by omega)
      have hbw : b < W.heap.size := World.block_lt_of_cell? W ⟨b, off + 0, none⟩ (hc 0 (by omega))
      refine ⟨b, off, rfl, hbw, hbw, fun j hj => ?_⟩
      rw [hlt] at hj
      rw [hc j (by omega), Sp.ub_bz _ hb' j (by rw [List.length_take]; omega)]
      simp [List.getD_eq_getElem?_getD, hj]
    · subst hx
      have h := blkN (lits (H := H) .u8 (zs.take len))
      have e : (lits (H := H) .u8 (zs.take len)).length = len := by simp [lits]; omega
      rw [e] at h
      rw [hlt]
      show _ ≤ Rows.uptoBulk (.slice (lits .u8 (zs.take len)) (lits .u8 (zs.drop len)))
      rw [Rows.uptoBulk]
      omega
end Tr
end Go.Proofs.Ytcpgcdffienobaa
/- Pairs in memory; pairs that came in. -/
namespace Go.Proofs.Ytcpgcdffienobaa
namespace Tr
open Nb Go.ChangeShapes Go.WideShapes Go.ChangeAt Go.RowKit
abbrev V2 := Value × Value
def m2 : V2 := (undef, undef)
/-- A slice of two values each, in a block of S. -/
def Pc (S : Nat → Prop) (vs : List V2) (v : Value) (w : World) : Prop := ∃ (ao : Option Addr) (cap : Nat), v = .slice ao vs.length cap ∧ vs.length ≤ cap ∧ (0 < vs.length → ∃ h off, ao = some ⟨h, off, none⟩ ∧ S h ∧ h < w.heap.size ∧ ∀ j, j < vs.length → w.cell? ⟨h, off + 2 * j, none⟩ = some (vs.getD j m2).1 ∧ w.cell? ⟨h, off + 2 * j + 1, none⟩ = some (vs.getD j m2).2)
/-- A slice of pairs, in blocks of S. -/
def Pv (S : Nat → Prop) (l : Rt) (v : Value) (w : World) : Prop := ∃ vs : List V2, vs.length = l.length ∧ Pc S vs v w ∧ ∀ j, j < l.length → Bs S (l.getD j n2).1 (vs.getD j m2).1 w ∧ Bs S (l.getD j n2).2 (vs.getD j m2).2 w
theorem Pc_gb {S : Nat → Prop} {vs : List V2} {v : Value} {w w' : World} {r : Option Nat} (h : Pc S vs v w) (hb : w.grownBy w' r) (hr : ∀ k, S k → some k ≠ r) : Pc S vs v w' := by
  obtain ⟨ao, cap, h1, h2, h4⟩ := h
  refine ⟨ao, cap, h1, h2, fun h0 => ?_⟩
  obtain ⟨k, off, e, hne, hlt, hc⟩ := h4 h0
  have hbk : w'.heap[k]? = w.heap[k]? := hb.block k hlt (hr k hne)
  exact ⟨k, off, e, hne, Nat.lt_of_lt_of_le hlt hb.size, fun j hj => ⟨(World.cell?_of_block (a := ⟨k, off + 2 * j, none⟩) hbk).trans (hc j hj).1, (World.cell?_of_block (a := ⟨k, off + 2 * j + 1, none⟩) hbk).trans (hc j hj).2⟩⟩
theorem Pv_gb {S : Nat → Prop} {l : Rt} {v : Value} {w w' : World} {r : Option Nat} (h : Pv S l v w) (hb : w.grownBy w' r) (hr : ∀ k, S k → some k ≠ r) : Pv S l v w' := by
  obtain ⟨vs, h1, h2, h3⟩ := h
  exact ⟨vs, h1, Pc_gb h2 hb hr, fun j hj => ⟨Bs_gb (h3 j hj).1 hb hr, Bs_gb (h3 j hj).2 hb hr⟩⟩
theorem Pv_below {S : Nat → Prop} {l : Rt} {v : Value} {w w' : World} (h : Pv S l v w) (hb : Below w.heap.size w w') : Pv S l v w' := Pv_gb (r := none) h (gb_below hb) (fun k _ e => by cases e)
theorem Pv_mono {S S' : Nat → Prop} {l : Rt} {v : Value} {w : World} (h : Pv S l v w) (hs : ∀ k, S k → k < w.heap.size → S' k) : Pv S' l v w := by
  obtain ⟨vs, h1, ⟨ao, cap, g1, g2, g4⟩, h3⟩ := h
  refine ⟨vs, h1, ⟨ao, cap, g1, g2, fun h0 => ?_⟩, fun j hj => ⟨Bs_mono (h3 j hj).1 hs, Bs_mono (h3 j hj).2 hs⟩⟩
  obtain ⟨k, off, e, hne, hlt, hc⟩ := g4 h0
  exact ⟨k, off, e, hs k hne hlt, hlt, hc⟩
theorem Pv_nil (S : Nat → Prop) (w : World) : Pv S [] (.slice none 0 0) w := ⟨[], rfl, ⟨none, 0, rfl, Nat.le_refl _, fun h => absurd h (by simp)⟩, fun j hj => absurd hj (by simp)⟩
theorem Pv_form {S : Nat → Prop} {l : Rt} {v : Value} {w : World} (h : Pv S l v w) : ∃ ao cap, v = .slice ao l.length cap ∧ l.length ≤ cap := by
  obtain ⟨vs, h1, ⟨ao, cap, g1, g2, _⟩, _⟩ := h
  rw [h1] at g1 g2
  exact ⟨ao, cap, g1, g2⟩
/-- One of them. -/
theorem Pv_at {S : Nat → Prop} {l : Rt} {ao : Option Addr} {n cap : Nat} {w : World} (h : Pv S l (.slice ao n cap) w) {j : Nat} (hj : j < l.length) : ∃ (g off : Nat) (kv vv : Value), ao = some ⟨g, off, none⟩ ∧ S g ∧ g < w.heap.size ∧ w.cell? ⟨g, off + 2 * j, none⟩ = some kv ∧ w.cell? ⟨g, off + 2 * j + 1, none⟩ = some vv ∧ Bs S (l.getD j n2).1 kv w ∧ Bs S (l.getD j n2).2 vv w := by
  obtain ⟨vs, h1, ⟨ao', cap', g1, g2, g4⟩, h3⟩ := h
  injection g1 with e1 e2 e3
  subst e1
  obtain ⟨k, off, e, hne, hlt, hc⟩ := g4 (by omega)
  exact ⟨k, off, _, _, e, hne, hlt, (hc j (by omega)).1, (hc j (by omega)).2, (h3 j hj).1, (h3 j hj).2⟩
theorem sum_blk {H : Type} (G : Nat → Nat) (D : Nat → DataW H) : ∀ l : List Nat, (∀ i, i ∈ l → G i ≤ Rows.uptoBulk (D i)) → (l.map G).sum ≤ Rows.uptoBulkAll (l.map D)
  | [], _ => Nat.zero_le _
  | i :: r, h => by
    have h1 := h i (List.mem_cons_self ..)
    have h2 := sum_blk G D r (fun j hj => h j (List.mem_cons_of_mem _ hj))
    rw [List.map_cons, List.map_cons, Rows.uptoBulkAll, List.sum_cons]
    omega
end Tr
end Go.Proofs.Ytcpgcdffienobaa
/- A word that came in: its four parts make a number below 2^256. -/
namespace Go.Proofs.Ytcpgcdffienobaa
open Go.ChangeShapes Go.WideShapes Go.ChangeAt Go.RowKit Go.Joins
theorem Try.own : ownKnob Try.prog.godebug = none := by kernel_rfl
theorem Try.laidOut : laidOutB Try.prog = true := by kernel_rfl
theorem Try.cellsWord : Try.prog.cellsOf 32 = 4 := by kernel_rfl
theorem wd_parts (p q r s : Int) (hp : 0 ≤ p ∧ p < 18446744073709551616) (hq : 0 ≤ q ∧ q < 18446744073709551616) (hr : 0 ≤ r ∧ r < 18446744073709551616) (hs : 0 ≤ s ∧ s < 18446744073709551616) : ∃ n : Nat, n < 2 ^ 256 ∧ Value.agg #[.int .u64 p, .int .u64 q, .int .u64 r, .int .u64 s] = Wd n := by
  refine ⟨(p + q * 18446744073709551616 + r * 340282366920938463463374607431768211456 + s * 6277101735386680763835789423207666416102355444464034512896).toNat, by omega, wd_of ?_ ?_ ?_ ?_⟩
  · rw [dg0]; omega
  · rw [dg1]; omega
  · rw [dg2]; omega
  · rw [dg3]; omega
theorem okWide_array {P : Program} {w : World} {r : Reach} {base : Nat} {t e : TypeId} {n : Nat} {v : Value} (ht : P.underlying t = some (.array n e)) (h : Value.okWide P w r base t v) : ∃ cs, v = .agg cs ∧ cs.size = P.cellsOf t := by
  simp only [Value.okWide, ht] at h
  obtain ⟨cs, h1, h2, _⟩ := h
  exact ⟨cs, h1, h2⟩
theorem open_word {H : Type} {enc : TypeId × Value → H} {W : World} {r : Reach} {b0 base : Nat} {spare : Nat → Bool} {held : Bool} {v : Value} {d : DataW H} {p : List MemPlace}
    (hv : Value.okWide Try.prog W r b0 32 v) (h : DataW.Trod enc Try.prog W base spare held 32 v d p) : ∃ n : Nat, n < 2 ^ 256 ∧ v = Wd n := by
  obtain ⟨cs, rfl, hsz⟩ := okWide_array Try.underlying32 hv
  obtain ⟨c0, c1, c2, c3, rfl⟩ := array4 (hsz.trans Try.cellsWord)
  obtain ⟨fuel, hf⟩ := h
  obtain ⟨y0, y1, y2, y3, n, hx, h0, h1, h2, h3⟩ := trod_array4 Try.underlying32 Try.cellsU64 (by simpa [Value.cells] using hf)
  obtain ⟨a, e0, _, wa⟩ := DataW.trod_int Try.underlying27 h0
  obtain ⟨b, e1, _, wb⟩ := DataW.trod_int Try.underlying27 h1
  obtain ⟨c, e2, _, wc⟩ := DataW.trod_int Try.underlying27 h2
  obtain ⟨e, e3, _, we⟩ := DataW.trod_int Try.underlying27 h3
  simp at e0 e1 e2 e3
  subst e0 e1 e2 e3
  have ba := bounds_u64 wa
  have bb := bounds_u64 wb
  have bc := bounds_u64 wc
  have be := bounds_u64 we
  exact wd_parts a b c e (by omega) (by omega) (by omega) (by omega)
end Go.Proofs.Ytcpgcdffienobaa
/- Operations on memory that came in. -/
namespace Go.Proofs.Ytcpgcdffienobaa
namespace Mm
open Go.ChangeShapes Go.WideShapes Go.ChangeAt Go.RowKit Go.Joins
theorem cellsOp : Try.prog.cellsOf 38 = 18 := by kernel_rfl
theorem cellsI : Try.prog.cellsOf 3 = 1 := by kernel_rfl
theorem cellsBs : Try.prog.cellsOf 24 = 1 := by kernel_rfl
theorem word_of {H : Type} {enc : TypeId × Value → H} {W : World} {fuel : Nat} {c0 c1 c2 c3 : Value} {x : DataW H × List MemPlace} (h : DataW.trod enc Try.prog W 0 (fun _ => true) true fuel 32 [c0, c1, c2, c3] = some x) :
    ∃ n : Nat, n < 2 ^ 256 ∧ c0 = .int .u64 (dg n 0) ∧ c1 = .int .u64 (dg n 1) ∧ c2 = .int .u64 (dg n 2) ∧ c3 = .int .u64 (dg n 3) := by
  obtain ⟨y0, y1, y2, y3, n, hx, h0, h1, h2, h3⟩ := trod_array4 Try.underlying32 Try.cellsU64 h
  obtain ⟨a, e0, _, wa⟩ := DataW.trod_int Try.underlying27 h0
  obtain ⟨b, e1, _, wb⟩ := DataW.trod_int Try.underlying27 h1
  obtain ⟨c, e2, _, wc⟩ := DataW.trod_int Try.underlying27 h2
  obtain ⟨e, e3, _, we⟩ := DataW.trod_int Try.underlying27 h3
  simp at e0 e1 e2 e3
  subst e0 e1 e2 e3
  have ba := bounds_u64 wa
  have bb := bounds_u64 wb
  have bc := bounds_u64 wc
  have be := bounds_u64 we
  obtain ⟨n, hn, e⟩ := wd_parts a b c e (by omega) (by omega) (by omega) (by omega)
  unfold Wd at e
  injection e with e
  have f0 := congrArg (fun a : Array Value => a.getD 0 undef) e
  have f1 := congrArg (fun a : Array Value => a.getD 1 undef) e
  have f2 := congrArg (fun a : Array Value => a.getD 2 undef) e
  have f3 := congrArg (fun a : Array Value => a.getD 3 undef) e
  exact ⟨n, hn, f0, f1, f2, f3⟩
/-- All numbers of an operation are words. -/
def Wl (o : Mo) : Prop := o.a < 2 ^ 256 ∧ o.f < 2 ^ 256 ∧ o.l < 2 ^ 256 ∧ o.w < 2 ^ 256
def ocl (o : Mo) (v : Value) : List Value := [.int .i64 o.k, .int .u64 (dg o.a 0), .int .u64 (dg o.a 1), .int .u64 (dg o.a 2), .int .u64 (dg o.a 3), .int .u64 (dg o.f 0), .int .u64 (dg o.f 1), .int .u64 (dg o.f 2), .int .u64 (dg o.f 3), .int .u64 (dg o.l 0), .int .u64 (dg o.l 1), .int .u64 (dg o.l 2), .int .u64 (dg o.l 3), .int .u64 (dg o.w 0), .int .u64 (dg o.w 1), .int .u64 (dg o.w 2), .int .u64 (dg o.w 3), v]
theorem ocl_get (o : Mo) (v : Value) (j : Nat) (h : j < 18) : (ocl o v)[j]? = some (oc o.k o.a o.f o.l o.w v j) := by
  have := oc_of o.k o.a o.f o.l o.w v j h
  rw [List.getElem?_toArray] at this
  exact this
set_option maxRecDepth 100000 in
theorem op_of {H : Type} {enc : TypeId × Value → H} {W : World} {fuel : Nat} {cs : List Value} {x : DataW H × List MemPlace} (h : DataW.trod enc Try.prog W 0 (fun _ => true) true fuel 38 cs = some x) :
    ∃ (o : Mo) (v : Value), cs = ocl o v ∧ Tr.Bs (· < W.heap.size) o.d v W ∧ Wl o ∧ o.d.length + 1 ≤ Rows.uptoBulk x.1 := by
  obtain ⟨xs, n, rfl, rfl, hl, hlen, hf⟩ := DataW.trod_struct Try.underlying38 h
  match xs, hlen with
  | [y0, y1, y2, y3, y4, y5], _ =>
    have f0 := hf 0 _ rfl
    have f1 := hf 1 _ rfl
    have f2 := hf 2 _ rfl
    have f3 := hf 3 _ rfl
    have f4 := hf 4 _ rfl
    have f5 := hf 5 _ rfl
    rw [cellsOp] at hl
    match cs, hl with
    | [c0, c1, c2, c3, c4, c5, c6, c7, c8, c9, c10, c11, c12, c13, c14, c15, c16, c17], _ =>
      simp only [List.getElem?_cons_zero, List.getElem?_cons_succ] at f0 f1 f2 f3 f4 f5
      obtain ⟨k, e0, _, _⟩ := DataW.trod_int Try.underlying3 f0
      obtain ⟨a, ha, a0, a1, a2, a3⟩ := word_of f1
      obtain ⟨b, hb, b0, b1, b2, b3⟩ := word_of f2
      obtain ⟨c, hc, g0, g1, g2, g3⟩ := word_of f3
      obtain ⟨e, he, d0, d1, d2, d3⟩ := word_of f4
      obtain ⟨d, v, e5, ht, hd⟩ := Tr.text_of f5
      injection e0 with e0 _
      injection e5 with e5 _
      subst e0 e5 a0 a1 a2 a3 b0 b1 b2 b3 g0 g1 g2 g3 d0 d1 d2 d3
      have hB : Rows.uptoBulk (DataW.agg ([y0, y1, y2, y3, y4, y5].map (·.1))) = Rows.uptoBulk y0.1 + (Rows.uptoBulk y1.1 + (Rows.uptoBulk y2.1 + (Rows.uptoBulk y3.1 + (Rows.uptoBulk y4.1 + (Rows.uptoBulk y5.1 + 0))))) + 1 := by
        rw [Rows.uptoBulk]
        rfl
      refine ⟨⟨k, a, b, c, e, d⟩, _, rfl, ht, ⟨ha, hb, hc, he⟩, ?_⟩
      rw [hB]
      show d.length + 1 ≤ _
      omega
theorem bulk_at {H : Type} : ∀ (l : List (DataW H)) (j : Nat) (x : DataW H), l[j]? = some x → Rows.uptoBulk x ≤ Rows.uptoBulkAll l
  | [], j, x, h => by simp at h
  | y :: r, 0, x, h => by
    simp at h
    subst h
    rw [Rows.uptoBulkAll]
    omega
  | y :: r, j + 1, x, h => by
    have := bulk_at r j x (by simpa using h)
    rw [Rows.uptoBulkAll]
    omega
theorem Mr_nil (S : Nat → Prop) (w : World) : Mr S [] (.slice none 0 0) w := ⟨[], none, 0, rfl, rfl, Nat.le_refl _, fun h => absurd h (by simp)⟩
set_option maxRecDepth 100000 in
theorem open_ops {H : Type} {enc : TypeId × Value → H} {W : World} {r : Reach} {b0 : Nat} {v : Value} {d : DataW H} {p : List MemPlace}
    (hv : Value.okWide Try.prog W r b0 22 v) (h : DataW.Trod enc Try.prog W 0 (fun _ => true) true 22 v d p) :
    ∃ l : List Mo, Mr (· < W.heap.size) l v W ∧ l.length + 1 ≤ Rows.uptoBulk d ∧ ∀ j, j < l.length → Wl (l.getD j no) ∧ (l.getD j no).d.length ≤ Rows.uptoBulk d := by
  obtain ⟨a0, len, cap, rfl⟩ := okWide_slice Try.underlying22 hv
  obtain ⟨fuel, hf⟩ := h
  rcases DataW.trod_slice Try.underlying22 hf with ⟨hcs, hx⟩ | ⟨a, len', cap', elems, rest, m, rfl, hcs, hx, _, hle, _, hel, hat, _, _⟩
  · simp [Value.cells] at hcs
    obtain ⟨rfl, rfl, rfl⟩ := hcs
    exact ⟨[], Mr_nil _ _, Tr.blk1 _, fun j hj => absurd hj (by simp)⟩
  · simp [Value.cells] at hcs
    obtain ⟨rfl, rfl, rfl⟩ := hcs
    have hd : Rows.uptoBulk d = Rows.uptoBulkAll (elems.map (·.1)) + Rows.uptoBulkAll (rest.map (·.1)) + 1 := by
      have : d = _ := congrArg Prod.fst hx
      rw [this, Rows.uptoBulk]
    have HI : ∀ i, ∃ p : Mo × Value, i < len → (∃ cs', W.cells? 0 (a.add (i * 18)) 18 = some cs' ∧ cs' = ocl p.1 p.2) ∧ Tr.Bs (· < W.heap.size) p.1.d p.2 W ∧ Wl p.1 ∧ p.1.d.length ≤ Rows.uptoBulk d := fun i => by
      by_cases hi : i < len
      · have k := hat i hi
        rw [cellsOp] at k
        rw [List.getElem?_eq_getElem (by omega)] at k
        cases hc : W.cells? 0 (a.add (i * 18)) 18 with
        | none => rw [hc] at k; cases k
        | some cs' =>
          rw [hc] at k
          obtain ⟨o, u, e1, e2, e3, e4⟩ := op_of k
          have hb := bulk_at (elems.map (·.1)) i (elems[i]'(by omega)).1 (by simp [List.getElem?_eq_getElem (show i < elems.length by omega)])
          exact ⟨(o, u), fun _ => ⟨⟨cs', rfl, e1⟩, e2, e3, by show o.d.length ≤ _; omega⟩⟩
      · exact ⟨(no, undef), fun h => absurd h hi⟩
    obtain ⟨F, hF⟩ := Classical.axiomOfChoice HI
    have hks : ((List.range len).map fun i => (F i).1).length = len := by simp
    have hvs : ((List.range len).map fun i => (F i).2).length = len := by simp
    refine ⟨(List.range len).map fun i => (F i).1, ⟨(List.range len).map fun i => (F i).2, some a, cap, by rw [hvs, hks], by rw [hks], by rw [hks]; exact hle, fun hp => ?_⟩, ?_, fun j hj => ?_⟩
    · rw [hks] at hp
      obtain ⟨bl, off, spot⟩ := a
      obtain ⟨cs', k1, k2⟩ := (hF 0 hp).1
      obtain ⟨_, _, k3⟩ := World.cells?_some k1
      have k4 := k3 0 (by decide)
      rw [k2, ocl_get _ _ 0 (by decide)] at k4
      have hspot : spot = none := by simpa [Addr.add] using World.cell?_spot k4
      subst hspot
      have hbw : bl < W.heap.size := World.block_lt_of_cell? W _ (by simpa [Go.WideShapes.add_plain] using k4)
      refine ⟨bl, off, rfl, hbw, hbw, fun j hj => ?_⟩
      rw [hks] at hj
      rw [Tr.getD_range _ _ _ _ hj, Tr.getD_range _ _ _ _ hj]
      obtain ⟨cs2, k5, k6⟩ := (hF j hj).1
      obtain ⟨_, _, k7⟩ := World.cells?_some k5
      rw [Go.WideShapes.add_plain] at k7
      refine ⟨fun o ho => ?_, (hF j hj).2.1⟩
      have g0 := k7 o ho
      rw [Go.WideShapes.add_plain, k6, ocl_get _ _ o ho] at g0
      rw [Nat.mul_comm 18 j]
      exact g0
    · have hN := Tr.blkN (elems.map (·.1))
      rw [List.length_map, hel] at hN
      rw [hd, hks]
      omega
    · rw [hks] at hj
      rw [Tr.getD_range _ _ _ _ hj]
      exact (hF j hj).2.2
theorem Mr_gb {S : Nat → Prop} {l : List Mo} {v : Value} {w w' : World} {r : Option Nat} (h : Mr S l v w) (hb : w.grownBy w' r) (hr : ∀ k, S k → some k ≠ r) : Mr S l v w' := by
  obtain ⟨ds, ao, cap, h1, h2, h3, h4⟩ := h
  refine ⟨ds, ao, cap, h1, h2, h3, fun h0 => ?_⟩
  obtain ⟨k, off, e, hne, hlt, hc⟩ := h4 h0
  have hbk : w'.heap[k]? = w.heap[k]? := hb.block k hlt (hr k hne)
  exact ⟨k, off, e, hne, Nat.lt_of_lt_of_le hlt hb.size, fun j hj => ⟨fun o ho => (World.cell?_of_block (a := ⟨k, off + 18 * j + o, none⟩) hbk).trans ((hc j hj).1 o ho), Tr.Bs_gb (hc j hj).2 hb hr⟩⟩
theorem Mr_mono {S S' : Nat → Prop} {l : List Mo} {v : Value} {w : World} (h : Mr S l v w) (hs : ∀ k, S k → k < w.heap.size → S' k) : Mr S' l v w := by
  obtain ⟨ds, ao, cap, h1, h2, h3, h4⟩ := h
  refine ⟨ds, ao, cap, h1, h2, h3, fun h0 => ?_⟩
  obtain ⟨k, off, e, hne, hlt, hc⟩ := h4 h0
  exact ⟨k, off, e, hs k hne hlt, hlt, fun j hj => ⟨(hc j hj).1, Tr.Bs_mono (hc j hj).2 hs⟩⟩
theorem Mr_below {l : List Mo} {v : Value} {w w' : World} (h : Mr (· < w.heap.size) l v w) (hb : Below w.heap.size w w') : Mr (· < w'.heap.size) l v w' :=
  Mr_mono (Mr_gb (r := none) h (Tr.gb_below hb) (fun k _ e => by cases e)) (fun k h1 h2 => h2)
theorem wf_of {o : Mo} {n : Nat} (h : Wl o) (h2 : o.d.length ≤ n) (hn : n ≤ 1048576) : Wf o := ⟨h.1, h.2.1, h.2.2.1, by omega⟩
end Mm
end Go.Proofs.Ytcpgcdffienobaa
/- What grows is paid for once: as numbers. -/
namespace Go.Proofs.Ytcpgcdffienobaa
namespace Mm
open Go.RowKit
theorem gco_paid (m : By) (e : Nat) (h : m.length % 32 = 0) : cst ((m.length / 32 : Nat) : Int) + gco m e = cst (((grw m e).length / 32 : Nat) : Int) := by
  unfold gco grw
  rw [List.length_append, List.length_replicate]
  by_cases h0 : (e + 31) / 32 ≤ m.length / 32
  · rw [if_pos h0, show (e + 31) / 32 - m.length / 32 = 0 by omega]
    simp
  · rw [if_neg h0, show (m.length + ((e + 31) / 32 - m.length / 32) * 32) / 32 = (e + 31) / 32 by omega]
    omega
theorem grw_mod (m : By) (e : Nat) (h : m.length % 32 = 0) : (grw m e).length % 32 = 0 := by
  unfold grw
  rw [List.length_append, List.length_replicate]
  omega
theorem grw_le (m : By) (e : Nat) (h0 : m.length % 32 = 0) (h : m.length ≤ 4096) (he : e ≤ 4096) : (grw m e).length ≤ 4096 := by
  unfold grw
  rw [List.length_append, List.length_replicate]
  omega
theorem grw_len (m : By) (e : Nat) (h : m.length % 32 = 0) : (grw m e).length = max m.length ((e + 31) / 32 * 32) := by
  unfold grw
  rw [List.length_append, List.length_replicate]
  omega
/-- A memory: whole words, and not too many. -/
def Mw (m : By) : Prop := m.length % 32 = 0 ∧ m.length ≤ 4096
theorem cut_len2 (m : By) (f t : Nat) (h : t ≤ m.length) : (cut m f t).length = t - f := cut_len m f t h
theorem dn_paid (m : By) (o : Mo) (h : Mw m) : cst ((m.length / 32 : Nat) : Int) + (dn m o).1.2.2 = cst (((dn m o).2.length / 32 : Nat) : Int) ∧ Mw (dn m o).2 ∧ m.length ≤ (dn m o).2.length := by
  obtain ⟨h1, h2⟩ := h
  have one : ∀ e f (b : By), e ≤ 4096 → f + b.length ≤ e → (cst ((m.length / 32 : Nat) : Int) + gco m e = cst (((lay (grw m e) f b).length / 32 : Nat) : Int) ∧ Mw (lay (grw m e) f b)) ∧ m.length ≤ (lay (grw m e) f b).length := fun e f b he hf => by
    have hg := grw_ge m e h1
    unfold Mw
    rw [lay_len _ _ _ (by omega)]
    exact ⟨⟨gco_paid m e h1, grw_mod m e h1, grw_le m e h1 h2 he⟩, by rw [grw_len m e h1]; omega⟩
  unfold dn
  by_cases h0 : (spans o).2.2 ≠ 0
  · rw [if_pos h0]
    exact ⟨by simp, ⟨h1, h2⟩, Nat.le_refl _⟩
  rw [if_neg h0]
  have h0 : (spans o).2.2 = 0 := by simpa using h0
  by_cases k1 : o.k = 1
  · rw [if_pos k1]
    obtain ⟨_, e2⟩ := spans_1 h0 32 (by omega) (by unfold tch; rw [if_pos (.inl k1)]) (by decide)
    exact ⟨gco_paid m _ h1, ⟨grw_mod m _ h1, grw_le m _ h1 h2 e2⟩, by show _ ≤ (grw m _).length; rw [grw_len m _ h1]; omega⟩
  rw [if_neg k1]
  by_cases k2 : o.k = 2
  · rw [if_pos k2]
    obtain ⟨_, e2⟩ := spans_1 h0 32 (by omega) (by unfold tch; rw [if_pos (.inr k2)]) (by decide)
    have := one (o.a + 32) o.a (Pk.wb o.w) e2 (by rw [Pk.wb_len]; omega)
    exact ⟨this.1.1, this.1.2, this.2⟩
  rw [if_neg k2]
  by_cases k3 : o.k = 3
  · rw [if_pos k3]
    obtain ⟨_, e2⟩ := spans_1 h0 1 (by omega) (by unfold tch; rw [if_neg (by omega), if_pos k3]) (by decide)
    have := one (o.a + 1) o.a [UInt8.ofNat o.w] e2 (by simp)
    exact ⟨this.1.1, this.1.2, this.2⟩
  rw [if_neg k3]
  by_cases k4 : o.k = 4
  · rw [if_pos k4]
    by_cases h5 : o.l = 0
    · rw [if_pos h5]
      exact ⟨by simp, ⟨h1, h2⟩, Nat.le_refl _⟩
    rw [if_neg h5]
    obtain ⟨_, e2, e3⟩ := spans_4 h0 k4 h5
    have hg := grw_ge m (max (o.a + o.l) (o.f + o.l)) h1
    have := one (max (o.a + o.l) (o.f + o.l)) o.a (cut (grw m (max (o.a + o.l) (o.f + o.l))) o.f (o.f + o.l)) (by omega) (by rw [cut_len _ _ _ (by omega)]; omega)
    exact ⟨this.1.1, this.1.2, this.2⟩
  rw [if_neg k4]
  by_cases h5 : o.d.length = 0
  · rw [if_pos h5]
    exact ⟨by simp, ⟨h1, h2⟩, Nat.le_refl _⟩
  rw [if_neg h5]
  have hk5 : tch o = (o.d.length, 0) := by
    have h9 : (tch o).2 = 0 := by
      unfold spans at h0
      by_cases h9 : (tch o).2 ≠ 0
      · rw [if_pos h9] at h0; exact h0
      · simpa using h9
    unfold tch at h9 ⊢
    rw [if_neg (by omega), if_neg k3, if_neg k4] at h9 ⊢
    by_cases h5 : o.k = 5
    · rw [if_pos h5]
    · rw [if_neg h5] at h9; simp at h9
  obtain ⟨_, e2⟩ := spans_1 h0 o.d.length k4 hk5 h5
  have := one (o.a + o.d.length) o.a o.d e2 (Nat.le_refl _)
  exact ⟨this.1.1, this.1.2, this.2⟩
/-- What was paid for the first i operations. -/
def pd (l : List Mo) : Nat → Int
  | 0 => 0
  | i + 1 => pd l i + (an l i).2.2
theorem pd_mi (l : List Mo) : ∀ i, pd l i = cst (((mi l i).length / 32 : Nat) : Int) ∧ Mw (mi l i)
  | 0 => ⟨by kernel_rfl, rfl, by simp [mi]⟩
  | i + 1 => by
    obtain ⟨h1, h2⟩ := pd_mi l i
    obtain ⟨h3, h4, _⟩ := dn_paid (mi l i) (l.getD i no) h2
    refine ⟨?_, h4⟩
    show pd l i + (dn (mi l i) (l.getD i no)).1.2.2 = cst (((dn (mi l i) (l.getD i no)).2.length / 32 : Nat) : Int)
    rw [h1, h3]
theorem cst_in (m : By) (h : Mw m) : 0 ≤ cst ((m.length / 32 : Nat) : Int) ∧ cst ((m.length / 32 : Nat) : Int) ≤ 640 := by
  have := cst_mono (m.length / 32) (m.length / 32) (Nat.le_refl _) (by have := h.2; omega)
  exact ⟨this.1, this.2.2⟩
end Mm
end Go.Proofs.Ytcpgcdffienobaa
/- lampbearerkeep.MemoryOnce. -/
namespace Go.Proofs.Ytcpgcdffienobaa
namespace Mm
open Go.RowKit Pk
theorem ldA2 {ops : Array Oper} {rest : List Oper} {op : Oper} {ac : Act} {w : World} {Q : Exit → Act → World → Prop} (s g b : Nat) (x : An) (hgd : op.guard = none) (ho : op.op = .load 34 (.tmp s)) (hx : ac.eval (.tmp s) = .pointer (some ⟨g, b, none⟩))
    (hc : ∀ o, o < 6 → w.cell? ⟨g, b + o, none⟩ = some (s6 x.1 x.2.1 x.2.2 o)) (h : wpList Try.prog ops Q rest (ac.put op.dst (av x)) w) : wpList Try.prog ops Q (op :: rest) ac w :=
  wpList_load_mid hgd 34 (.tmp s) ho g b hx (a6 x) _ (range_a6 hc) Try.underlying34 rfl infoS6 h
theorem u640 (x : Int) (h1 : 0 ≤ x) (h2 : x ≤ 640) : Hid (IntKind.u64.wrap x = x) := by
  show x % 18446744073709551616 = x
  omega
set_option maxHeartbeats 2000000 in
set_option maxRecDepth 100000 in
theorem once_walk (l : List Mo) (n : Nat) (m : By) (hl : Hid (∀ j, j < l.length → Wf (l.getD j no))) (hn : Hid (n = l.length)) (hz : Hid (n ≤ 1048576)) (hmi : Hid (m = mi l n)) (ao : Option Addr) (cap : Nat) (w : World) (hm : Hid (Mr (· < w.heap.size) l (.slice ao n cap) w)) : Calls Try.prog 5 #[.slice ao n cap] w fun e w' => e = .returned (.bool true) ∧ Below w.heap.size w w' := by
  have KA : Hid (∀ W : World, Calls Try.prog 14 #[] W fun e w' => e = .returned (.bool true) ∧ Below W.heap.size W w') := fun W => alive_any W
  have KP : Hid (∀ W : World, Below w.heap.size w W → Calls Try.prog 9 #[.slice ao n cap] W fun e w' => ∃ ga u, e = .returned (.tuple #[.slice (some ⟨ga, 0, none⟩) n n, u]) ∧ Rp W.heap.size ga l u w' ∧ Below W.heap.size W w') := fun W hb => by
    rw [hn.out] at hm ⊢
    exact play_any l hl.out (by rw [← hn.out]; exact hz.out) _ W (Mr_below hm.out hb)
  go_enter Try.func5, Try.ntmps5
  go_wp2_with fail
  refine (KA.out w).mono ?_
  rintro e w1 ⟨rfl, b1⟩
  have B1 : Hid _ := b1
  clear b1 KA
  go_wp2_with fail
  refine (KP.out w1 B1.out).mono ?_
  rintro e w2 ⟨ga, u, rfl, r2, b2⟩
  obtain ⟨ub, uc, eu, huc, hub⟩ := r2.b
  rw [← hn.out, ← hmi.out] at eu
  subst eu
  have B2 : Hid (Below w.heap.size w w2) := B1.out.trans (b2.mono B1.out.size)
  have R2 : Hid (Rp w1.heap.size ga l (.slice ub m.length uc) w2) := r2
  clear r2 huc hub b2 B1 KP
  go_upto_region 6 with fail
  go_loopw [5, 17] (fun p s wr => ∃ (i : Nat), i ≤ n ∧ s = .int .i64 (i : Int) ∧ p = .int .u64 (pd l i) ∧ Below w2.heap.size w2 wr) (fun _ s _ => ((n : Int) - intOf s).toNat)
  case atStart => exact ⟨0, Nat.zero_le _, rfl, rfl, Below.refl _ _⟩
  case round =>
    obtain ⟨i, hi, rfl, rfl, hb⟩ := hrel
    by_cases hlt : i < n
    · have d0 : (0 : Int) ≤ (i : Int) := by omega
      have d1 : (i : Int) < (n : Int) := by omega
      have HB : Hid _ := hb
      have hil : i < l.length := by rw [← hn.out]; exact hlt
      have HC : Hid (∀ o, o < 6 → wr.cell? ⟨ga, i * 6 + o, none⟩ = some (s6 (an l i).1 (an l i).2.1 (an l i).2.2 o)) := fun o ho => (hb.cell (p := ⟨ga, i * 6 + o, none⟩) R2.out.hi).trans (R2.out.c i hil o ho)
      have EP : Hid (pd l (i + 1) = pd l i + (an l i).2.2) := rfl
      have q1 := pd_mi l (i + 1)
      have q2 := cst_in _ q1.2
      have EW : Hid (IntKind.u64.wrap (pd l i + (an l i).2.2) = pd l i + (an l i).2.2) := by
        have := u640 (pd l (i + 1)) (by rw [q1.1]; exact q2.1) (by rw [q1.1]; exact q2.2)
        exact this.out
      clear q1 q2 hb hil
      generalize pd l i = P0 at *
      generalize an l i = A at *
      obtain ⟨A1, A2, A3⟩ := A
      dsimp only at HC EP EW
      go_upto_region 7 with fail
      refine wp_region_lit ?_
      refine RF.go (by kernel_rfl) ?_
      go_simp
      refine ldA2 19 ga (i * 6) (A1, A2, A3) rfl rfl rfl HC.out ?_
      unfold av
      have ew := EW.out
      go_upto_region 8 with fail
      clear HC
      have B8 : Hid (Below w2.heap.size w2 (wr.alloc (.cells #[.int .i64 A1, .int .u64 (dg A2 0), .int .u64 (dg A2 1), .int .u64 (dg A2 2), .int .u64 (dg A2 3), .int .u64 A3] 34))) := HB.out.alloc HB.out.size _
      have c5 : (wr.alloc (.cells #[.int .i64 A1, .int .u64 (dg A2 0), .int .u64 (dg A2 1), .int .u64 (dg A2 2), .int .u64 (dg A2 3), .int .u64 A3] 34)).cell? ⟨wr.heap.size, 5, none⟩ = some (.int .u64 A3) := by simp
      generalize wr.alloc (.cells #[.int .i64 A1, .int .u64 (dg A2 0), .int .u64 (dg A2 1), .int .u64 (dg A2 2), .int .u64 (dg A2 3), .int .u64 A3] 34) = W8 at B8 c5 ⊢
      clear HB
      have hw := stw i n hlt hz.out
      go_wp2_with fail
      go_roundw
      case rel => exact ⟨i + 1, hlt, stv i _ hw.out, by rw [EP.out], B8.out⟩
      case measure => exact stm i n hlt _ hw.out
    · have ek : i = n := by omega
      subst ek
      have hb2 : Below w.heap.size w wr := B2.out.trans (hb.mono B2.out.size)
      have d0 : decide ((i : Int) < (i : Int)) = false := decide_eq_false (by omega)
      clear hb
      have q1 := pd_mi l i
      rw [← hmi.out] at q1
      have KC : Hid (∀ W : World, Calls Try.prog 11 #[.int .i64 ((m.length / 32 : Nat) : Int)] W fun e w' => e = .returned (.int .u64 (pd l i)) ∧ Below W.heap.size W w') := fun W => by
        rw [q1.1]
        exact cost_any _ W
      have M1 : Hid (m.length % 32 = 0 ∧ m.length ≤ 4096) := q1.2
      clear q1
      generalize pd l i = P0 at *
      generalize m.length = z at *
      have HB : Hid _ := hb2
      clear hb2
      have e1 : ((z : Int).tmod 32 == 0) = true := by
        have := M1.out
        rw [beq_iff_eq, Int.tmod_eq_emod_of_nonneg (by omega)]
        omega
      have e1b : (z : Int) % 32 = 0 := by
        have := M1.out
        omega
      have e2 : decide (z ≤ 4096) = true := decide_eq_true M1.out.2
      have e2b : decide ((z : Int) ≤ 4096) = true := decide_eq_true (by have := M1.out.2; omega)
      have e3 : (z : Int).tdiv 32 = ((z / 32 : Nat) : Int) := by
        rw [Int.tdiv_eq_ediv_of_nonneg (by omega)]
        omega
      have en : ((i : Int) == (i : Int)) = true := by simp
      have e4 : wrap64 (((z / 32 : Nat) : Int)) = ((z / 32 : Nat) : Int) := by
        have := M1.out
        unfold wrap64
        omega
      have e5 : wrap64 ((z : Int) / 32) = ((z / 32 : Nat) : Int) := by
        have := M1.out
        unfold wrap64
        omega
      have ep : (P0 == P0) = true := by simp
      go_wp2_with fail
      refine (KC.out wr).mono ?_
      rintro e w9 ⟨rfl, b9⟩
      have H9 : Hid _ := HB.out.trans (b9.mono HB.out.size)
      clear b9 HB KC
      go_wp2_with fail
      go_ret
      exact ⟨rfl, H9.out⟩
theorem law_once (l : List Mo) (hl : ∀ j, j < l.length → Wf (l.getD j no)) (hz : l.length ≤ 1048576) (v : Value) (w : World) (hm : Mr (· < w.heap.size) l v w) : Calls Try.prog 5 #[v] w fun e w' => e = .returned (.bool true) ∧ Below w.heap.size w w' := by
  have hm2 := hm
  obtain ⟨ds, ao, cap, _, rfl, _, _⟩ := hm2
  exact once_walk l l.length (mi l l.length) hl rfl hz rfl ao cap w hm
end Mm
end Go.Proofs.Ytcpgcdffienobaa
/- Operations in rows of one's own: slices.Clone, append. -/
namespace Go.Proofs.Ytcpgcdffienobaa
namespace Mm
open Go.RowKit Pk
abbrev OV := Mo × Value
def OC (xs : List OV) : List Value := xs.flatMap fun x => ocl x.1 x.2
theorem ocl_len (o : Mo) (v : Value) : (ocl o v).length = 18 := rfl
theorem OC_len (xs : List OV) : (OC xs).length = xs.length * 18 := by
  induction xs with
  | nil => rfl
  | cons x r ih =>
    show ((ocl x.1 x.2) ++ OC r).length = _
    rw [List.length_append, ocl_len, ih, List.length_cons]
    omega
theorem OC_app (xs ys : List OV) : OC (xs ++ ys) = OC xs ++ OC ys := by simp [OC]
theorem OC_get : ∀ (xs : List OV) (i o : Nat), i < xs.length → o < 18 → (OC xs)[18 * i + o]? = some (oc (xs.getD i (no, undef)).1.k (xs.getD i (no, undef)).1.a (xs.getD i (no, undef)).1.f (xs.getD i (no, undef)).1.l (xs.getD i (no, undef)).1.w (xs.getD i (no, undef)).2 o)
  | [], i, o, h, _ => absurd h (by simp)
  | x :: r, 0, o, _, ho => by
    show (ocl x.1 x.2 ++ OC r)[18 * 0 + o]? = _
    rw [show 18 * 0 + o = o by omega, List.getElem?_append_left (by rw [ocl_len]; exact ho), ocl_get _ _ o ho]
    rfl
  | x :: r, i + 1, o, h, ho => by
    show (ocl x.1 x.2 ++ OC r)[18 * (i + 1) + o]? = _
    rw [List.getElem?_append_right (by rw [ocl_len]; omega), ocl_len, show 18 * (i + 1) + o - 18 = 18 * i + o by omega, OC_get r i o (by simpa using h) ho]
    rfl
def isSl (v : Value) : Prop := ∃ a n c, v = .slice a n c
theorem Bs_isSl {S : Nat → Prop} {b : By} {v : Value} {w : World} (h : Tr.Bs S b v w) : isSl v := by
  obtain ⟨ao, cap, e, _⟩ := h
  exact ⟨_, _, _, e⟩
theorem OC_one (xs : List OV) (h : ∀ x, x ∈ xs → isSl x.2) : ∀ u ∈ OC xs, u.oneCell' = true := fun u hu => by
  unfold OC at hu
  obtain ⟨x, hx, h2⟩ := List.mem_flatMap.1 hu
  obtain ⟨a, n, c, e⟩ := h x hx
  unfold ocl at h2
  rw [e] at h2
  simp only [List.mem_cons, List.not_mem_nil, or_false] at h2
  rcases h2 with rfl | rfl | rfl | rfl | rfl | rfl | rfl | rfl | rfl | rfl | rfl | rfl | rfl | rfl | rfl | rfl | rfl | rfl <;> rfl
/-- A slice of operations whose cells are those of xs. -/
def VO (xs : List OV) (v : Value) (w : World) : Prop := ∃ (ao : Option Addr) (cap : Nat), v = .slice ao xs.length cap ∧ (0 < xs.length → ∃ g off, ao = some ⟨g, off, none⟩ ∧ g < w.heap.size ∧ ∀ j, j < xs.length * 18 → w.cell? ⟨g, off + j, none⟩ = (OC xs)[j]?)
theorem VO_below {xs : List OV} {v : Value} {w w' : World} (h : VO xs v w) (hb : Below w.heap.size w w') : VO xs v w' := by
  obtain ⟨ao, cap, h1, h3⟩ := h
  refine ⟨ao, cap, h1, fun h0 => ?_⟩
  obtain ⟨g, off, h4, h5, h6⟩ := h3 h0
  exact ⟨g, off, h4, Nat.lt_of_lt_of_le h5 hb.size, fun j hj => (hb.cell (p := ⟨g, off + j, none⟩) h5).trans (h6 j hj)⟩
theorem getD_zip (l : List Mo) (ds : List Value) (j : Nat) (h : j < l.length) (h2 : ds.length = l.length) : (l.zip ds).getD j (no, undef) = (l.getD j no, ds.getD j undef) := by
  simp [List.getD_eq_getElem?_getD, List.getElem?_eq_getElem h, List.getElem?_eq_getElem (show j < ds.length by omega), List.getElem?_eq_getElem (show j < (l.zip ds).length by simp; omega)]
theorem getD_mem {α : Type} (l : List α) (d : α) (j : Nat) (h : j < l.length) : l.getD j d ∈ l := by
  simp [List.getD_eq_getElem?_getD, List.getElem?_eq_getElem h]
theorem mem_getD {α : Type} (l : List α) (d x : α) (h : x ∈ l) : ∃ j, j < l.length ∧ l.getD j d = x := by
  obtain ⟨j, hj, e⟩ := List.getElem_of_mem h
  exact ⟨j, hj, by simp [List.getD_eq_getElem?_getD, List.getElem?_eq_getElem hj, e]⟩
/-- What came in, by cells. -/
theorem Mr_VO {S : Nat → Prop} {l : List Mo} {v : Value} {w : World} (h : Mr S l v w) : ∃ xs : List OV, xs.map (·.1) = l ∧ VO xs v w ∧ ∀ x, x ∈ xs → Tr.Bs S x.1.d x.2 w := by
  obtain ⟨ds, ao, cap, h1, h2, h3, h4⟩ := h
  have hz : (l.zip ds).length = l.length := by simp; omega
  refine ⟨l.zip ds, List.map_fst_zip (by omega), ⟨ao, cap, by rw [hz]; exact h2, fun h0 => ?_⟩, fun x hx => ?_⟩
  · rw [hz] at h0
    obtain ⟨g, off, e, _, hlt, hc⟩ := h4 h0
    refine ⟨g, off, e, hlt, fun j hj => ?_⟩
    rw [hz] at hj
    have hg := OC_get (l.zip ds) (j / 18) (j % 18) (by rw [hz]; omega) (by omega)
    rw [show 18 * (j / 18) + j % 18 = j by omega, getD_zip l ds _ (by omega) h1] at hg
    have hk := (hc (j / 18) (by omega)).1 (j % 18) (by omega)
    rw [show off + 18 * (j / 18) + j % 18 = off + j by omega] at hk
    rw [hk, hg]
  · obtain ⟨j, hj, e⟩ := mem_getD _ (no, undef) x hx
    rw [hz] at hj
    rw [getD_zip l ds _ hj h1] at e
    subst e
    obtain ⟨g, off, _, _, _, hc⟩ := h4 (by omega)
    exact (hc j hj).2
theorem getD_fst (xs : List OV) (j : Nat) (h : j < xs.length) : (xs.map (·.1)).getD j no = (xs.getD j (no, undef)).1 := by
  simp [List.getD_eq_getElem?_getD, List.getElem?_eq_getElem h]
theorem getD_snd (xs : List OV) (j : Nat) (h : j < xs.length) : (xs.map (·.2)).getD j undef = (xs.getD j (no, undef)).2 := by
  simp [List.getD_eq_getElem?_getD, List.getElem?_eq_getElem h]
def Oo (B : Nat) (xs : List OV) (v : Value) (w : World) : Prop := w.ownsRow B 38 18 v xs.length (OC xs)
/-- A row of one's own, as it is handed to Play. -/
theorem Oo_Mr {B : Nat} {S : Nat → Prop} {xs : List OV} {v : Value} {w : World} (h : Oo B xs v w) (hd : ∀ x, x ∈ xs → Tr.Bs S x.1.d x.2 w) (hS : ∀ k, B ≤ k → k < w.heap.size → S k) : Mr S (xs.map (·.1)) v w := by
  have hl : (xs.map (·.1)).length = xs.length := by simp
  rcases h.2 with ⟨h3, h4⟩ | ⟨g, cap, cur, h3, h5⟩
  · have e : xs = [] := List.length_eq_zero_iff.1 h4
    subst e h3
    exact Mr_nil _ _
  · subst h3
    refine ⟨xs.map (·.2), some ⟨g, 0, none⟩, cap, by simp, by rw [hl], by rw [hl]; exact h5.2.2.1, fun h0 => ⟨g, 0, rfl, hS g h5.1 (lt_of_heap h5.2.1), lt_of_heap h5.2.1, fun j hj => ?_⟩⟩
    rw [hl] at hj
    rw [getD_fst xs j hj, getD_snd xs j hj]
    refine ⟨fun o ho => ?_, hd _ (getD_mem xs _ j hj)⟩
    rw [Nat.zero_add, h.cellAt (18 * j + o) (by omega), OC_get xs j o hj ho]
theorem infoO : (Try.prog.info? 38).map (fun i => (i.zero, i.size, i.bytes)) = some (some (.agg #[.int .i64 0, .int .u64 0, .int .u64 0, .int .u64 0, .int .u64 0, .int .u64 0, .int .u64 0, .int .u64 0, .int .u64 0, .int .u64 0, .int .u64 0, .int .u64 0, .int .u64 0, .int .u64 0, .int .u64 0, .int .u64 0, .int .u64 0, .slice none 0 0]), 18, 160) := by kernel_rfl
theorem app_op {base : Nat} {xs ys : List OV} {v vb : Value} {w : World} (ty : TypeId) (h : Oo base xs v w) (hb : VO ys vb w) (hy : ∀ x, x ∈ ys → isSl x.2) (hbase : base ≤ w.heap.size) (hlen : xs.length + ys.length ≤ 4194304) :
    ∃ v' w', (Builtin.append_ #[22, 22] ty #[v, vb]).run Try.prog w = .ok v' w' ∧ Oo base (xs ++ ys) v' w' ∧ w.grownBy w' v.ownBlock := by
  obtain ⟨i0, hi, hz0, hz1, hz2⟩ := info_parts infoO
  obtain ⟨ao, cap, rfl, vw⟩ := hb
  by_cases h0 : 0 < ys.length
  · obtain ⟨g, off, rfl, hg, hc⟩ := vw h0
    obtain ⟨v', w', hr, ho, hgr, _⟩ := run_append_own (P := Try.prog) w base 22 ty 38 i0 _ 18 160 Try.underlying22 hi hz0 hz1 hz2 rfl (by decide) v xs.length (OC xs) h ⟨g, off, none⟩ ys.length cap (OC ys) (OC_len ys)
      (fun j u hj => by
        have hj' : j < ys.length * 18 := by have := (List.getElem?_eq_some_iff.1 hj).1; rwa [OC_len] at this
        rw [Sp.add_lit, hc j hj', hj]) (OC_one ys hy) (by unfold maxLen; omega) (by omega) hbase
    refine ⟨v', w', hr, by unfold Oo; rw [List.length_append, OC_app]; exact ho, hgr⟩
  · have e : ys = [] := List.length_eq_zero_iff.1 (by omega)
    subst e
    rw [List.append_nil]
    refine ⟨v, w, ?_, h, gb_refl w _⟩
    have hs : Src Try.prog i0.size 22 (.slice ao 0 cap) 0 [] w := by
      cases ao with
      | none => exact Src.ofNil w Try.underlying22 cap
      | some ad => exact Src.ofSlice w Try.underlying22 ad 0 cap [] (by simp) (fun j u hj => by simp at hj) (fun u hu => by cases hu)
    rcases h.2 with ⟨h3, h4⟩ | ⟨g', cap', cur, h3, h5⟩
    · subst h3
      exact run_append_nothing w 22 22 ty 38 i0 Try.underlying22 hi none 0 0 (Nat.le_refl _) _ hs
    · subst h3
      exact run_append_nothing w 22 22 ty 38 i0 Try.underlying22 hi _ _ _ h5.2.2.1 _ hs
theorem Oo_below {B : Nat} {xs : List OV} {v : Value} {w w' : World} (h : Oo B xs v w) (hb : Below w.heap.size w w') : Oo B xs v w' := h.kept (Tr.gb_below hb) ((Classical.em (v.ownBlock = none)).elim .inl .inr)
set_option maxHeartbeats 2000000 in
set_option maxRecDepth 100000 in
theorem clone_op (xs : List OV) (v : Value) (w : World) (hv : VO xs v w) (hs : ∀ x, x ∈ xs → isSl x.2) (hl : xs.length ≤ 4194304) :
    Calls Try.prog 15 #[v] w fun e w' => ∃ z, e = .returned z ∧ Oo w.heap.size xs z w' ∧ Below w.heap.size w w' := by
  have hv0 := hv
  obtain ⟨ao, cap, rfl, hq⟩ := hv
  cases ao with
  | none =>
    have h0 : xs.length = 0 := by
      apply Classical.byContradiction
      intro h
      obtain ⟨g, off, e, _⟩ := hq (by omega)
      cases e
    have h1 : xs = [] := List.length_eq_zero_iff.1 h0
    subst h1
    have x1 := Lib.run_eql_slice_nil w 22 38 none 0 cap 0 0 Try.underlying22
    clear hv0 hq h0 hl hs
    show Calls Try.prog _ #[.slice none 0 cap] w _
    go_enter Try.func15, Try.ntmps15
    go_wp2_with fail
    go_ret
    exact ⟨_, rfl, World.ownsRow_nil _ _ _ _, Below.refl _ _⟩
  | some ad =>
    have x1 := Lib.run_eql_slice_nil w 22 38 (some ad) xs.length cap 0 0 Try.underlying22
    have ba : Below w.heap.size w (w.alloc (.cells #[] 38)) := (Below.refl _ _).alloc (Nat.le_refl _) _
    have ow : Oo w.heap.size [] (.slice (some ⟨w.heap.size, 0, none⟩) 0 0) (w.alloc (.cells #[] 38)) := World.ownsRow_lit w #[] 0 (Nat.le_refl _) (Nat.zero_le _) rfl
    obtain ⟨z, w2, hap, ho, hb⟩ := app_op 22 ow (VO_below hv0 ba) hs ba.size (by simpa using hl)
    have HO : Hid (Oo w.heap.size xs z w2) := by show Oo _ _ _ _; simpa using ho
    have HB : Hid (Below w.heap.size w w2) := ba.trans ((Below.refl _ _).grown hb ba.size (fun k hk => (Sp.own_lo ow k hk).1))
    clear hv0 hq hl ow ho hb ba hs
    go_enter Try.func15, Try.ntmps15
    go_wp2_with (at_builtin; refine Tr.wpList_apw rfl rfl rfl rfl hap ?_)
    go_ret
    exact ⟨_, rfl, HO.out, HB.out⟩
end Mm
end Go.Proofs.Ytcpgcdffienobaa
/- What operations come to, one behind the other: as lists. -/
namespace Go.Proofs.Ytcpgcdffienobaa
namespace Mm
open Go.RowKit
theorem mi_app (l r : List Mo) : ∀ i, i ≤ l.length → mi (l ++ r) i = mi l i
  | 0, _ => rfl
  | i + 1, h => by
    have e : (l ++ r).getD i no = l.getD i no := by
      simp [List.getD_eq_getElem?_getD, List.getElem?_append_left (show i < l.length by omega)]
    show (dn (mi (l ++ r) i) ((l ++ r).getD i no)).2 = (dn (mi l i) (l.getD i no)).2
    rw [mi_app l r i (by omega), e]
theorem getD_app (l r : List Mo) (j : Nat) : (l ++ r).getD (l.length + j) no = r.getD j no := by
  simp only [List.getD_eq_getElem?_getD]
  rw [List.getElem?_append_right (by omega), Nat.add_sub_cancel_left]
theorem mi_one (l r : List Mo) (j : Nat) : mi (l ++ r) (l.length + j + 1) = (dn (mi (l ++ r) (l.length + j)) (r.getD j no)).2 := by
  show (dn (mi (l ++ r) (l.length + j)) ((l ++ r).getD (l.length + j) no)).2 = _
  rw [getD_app]
theorem an_one (l r : List Mo) (j : Nat) : an (l ++ r) (l.length + j) = (dn (mi (l ++ r) (l.length + j)) (r.getD j no)).1 := by
  show (dn (mi (l ++ r) (l.length + j)) ((l ++ r).getD (l.length + j) no)).1 = _
  rw [getD_app]
theorem ext_at (x y : By) (hl : x.length = y.length) (h : ∀ i, x.getD i 0 = y.getD i 0) : x = y := by
  apply List.ext_getElem hl
  intro i h1 h2
  have := h i
  simpa [List.getD_eq_getElem?_getD, List.getElem?_eq_getElem h1, List.getElem?_eq_getElem h2] using this
theorem lay_at (m : By) (f : Nat) (b : By) (h : f + b.length ≤ m.length) (i : Nat) : (lay m f b).getD i 0 = if f ≤ i ∧ i < f + b.length then b.getD (i - f) 0 else m.getD i 0 := by
  unfold lay
  simp only [List.getD_eq_getElem?_getD]
  by_cases h1 : i < f
  · rw [if_neg (by omega), List.getElem?_append_left (by rw [List.length_take]; omega), List.getElem?_take_of_lt h1]
  · rw [List.getElem?_append_right (by rw [List.length_take]; omega), List.length_take, show min f m.length = f by omega]
    by_cases h2 : i < f + b.length
    · rw [if_pos (by omega), List.getElem?_append_left (by omega)]
    · rw [if_neg (by omega), List.getElem?_append_right (by omega), List.getElem?_drop]
      congr 2
      omega
theorem grw_at (m : By) (e i : Nat) : (grw m e).getD i 0 = m.getD i 0 := by
  unfold grw
  simp only [List.getD_eq_getElem?_getD]
  by_cases h1 : i < m.length
  · rw [List.getElem?_append_left h1]
  · rw [List.getElem?_append_right (by omega), List.getElem?_replicate, List.getElem?_eq_none (by omega)]
    split <;> rfl
theorem cut_at (m : By) (f t j : Nat) (h : j < t - f) : (cut m f t).getD j 0 = m.getD (f + j) 0 := by
  unfold cut
  simp only [List.getD_eq_getElem?_getD]
  rw [List.getElem?_take_of_lt h, List.getElem?_drop]
theorem app_at (a b : By) (i : Nat) : (a ++ b).getD i 0 = if i < a.length then a.getD i 0 else b.getD (i - a.length) 0 := by
  simp only [List.getD_eq_getElem?_getD]
  by_cases h1 : i < a.length
  · rw [if_pos h1, List.getElem?_append_left h1]
  · rw [if_neg h1, List.getElem?_append_right (by omega)]
/-- Bytes are put. -/
def put (m : By) (a : Nat) (d : By) : By := if d.length = 0 then m else lay (grw m (a + d.length)) a d
theorem dn_put (m : By) (a : Nat) (d : By) (h : a + d.length ≤ 4096) : (dn m ⟨5, a, 0, 0, 0, d⟩).2 = put m a d := by
  have e : (spans ⟨5, a, 0, 0, 0, d⟩).2.2 = 0 := by
    simp only [spans, tch, spn]
    by_cases h0 : d.length = 0
    · simp [h0]
    · simp [h0, h]
  unfold dn put
  rw [if_neg (by rw [e]; simp)]
  simp only [show ¬ (5 : Int) = 1 by decide, show ¬ (5 : Int) = 2 by decide, show ¬ (5 : Int) = 3 by decide, show ¬ (5 : Int) = 4 by decide, if_false]
  split <;> rfl
theorem put_len (m : By) (a : Nat) (d : By) (h : Mw m) (hd : d.length ≠ 0) : (put m a d).length = max m.length ((a + d.length + 31) / 32 * 32) := by
  unfold put
  rw [if_neg hd, lay_len _ _ _ (grw_ge m _ h.1), grw_len m _ h.1]
theorem put_at (m : By) (a : Nat) (d : By) (h : Mw m) (i : Nat) : (put m a d).getD i 0 = if a ≤ i ∧ i < a + d.length then d.getD (i - a) 0 else m.getD i 0 := by
  unfold put
  by_cases hd : d.length = 0
  · rw [if_pos hd, if_neg (by omega)]
  · rw [if_neg hd, lay_at _ _ _ (grw_ge m _ h.1), grw_at]
theorem put_mw (m : By) (a : Nat) (d : By) (h : Mw m) (ha : a + d.length ≤ 4096) : Mw (put m a d) ∧ m.length ≤ (put m a d).length := by
  have := (dn_paid m ⟨5, a, 0, 0, 0, d⟩ h).2
  rw [dn_put m a d ha] at this
  exact this
theorem put_two (m : By) (at_ : Nat) (a b : By) (h : Mw m) (hx : at_ + a.length + b.length ≤ 4096) : put (put m at_ a) (at_ + a.length) b = put m at_ (a ++ b) := by
  obtain ⟨h1, h2⟩ := put_mw m at_ a h (by omega)
  apply ext_at
  · by_cases ha : a.length = 0
    · have e : a = [] := List.length_eq_zero_iff.1 ha
      subst e
      simp [put]
    by_cases hb : b.length = 0
    · have e : b = [] := List.length_eq_zero_iff.1 hb
      subst e
      simp [put]
    rw [put_len _ _ _ h1 hb, put_len _ _ _ h ha, put_len _ _ _ h (by rw [List.length_append]; omega), List.length_append]
    omega
  · intro i
    rw [put_at _ _ _ h1, put_at _ _ _ h, put_at _ _ _ h, app_at, List.length_append]
    by_cases c1 : at_ + a.length ≤ i ∧ i < at_ + a.length + b.length
    · rw [if_pos c1, if_pos (by omega), if_neg (by omega)]
      congr 1
      omega
    · rw [if_neg c1]
      by_cases c2 : at_ ≤ i ∧ i < at_ + a.length
      · rw [if_pos c2, if_pos (by omega), if_pos (by omega)]
      · rw [if_neg c2, if_neg (by omega)]
/-- Bytes are copied. -/
def cpy (m : By) (a f n : Nat) : By := if n = 0 then m else lay (grw m (max (a + n) (f + n))) a (cut (grw m (max (a + n) (f + n))) f (f + n))
theorem dn_cpy (m : By) (a f n : Nat) (h : a + n ≤ 4096) (h2 : f + n ≤ 4096) : (dn m ⟨4, a, f, n, 0, []⟩).2 = cpy m a f n := by
  have e : (spans ⟨4, a, f, n, 0, []⟩).2.2 = 0 := by
    simp only [spans, tch, spn]
    by_cases h0 : n = 0
    · simp [h0]
    · simp [h0, h, h2]
  unfold dn cpy
  rw [if_neg (by rw [e]; simp)]
  simp only [show ¬ (4 : Int) = 1 by decide, show ¬ (4 : Int) = 2 by decide, show ¬ (4 : Int) = 3 by decide, if_false, if_true]
  split <;> rfl
theorem cpy_at (m : By) (a f n : Nat) (h : Mw m) (i : Nat) : (cpy m a f n).getD i 0 = if a ≤ i ∧ i < a + n then m.getD (f + i - a) 0 else m.getD i 0 := by
  unfold cpy
  by_cases hd : n = 0
  · rw [if_pos hd, if_neg (by omega)]
  · have hg := grw_ge m (max (a + n) (f + n)) h.1
    have hc : (cut (grw m (max (a + n) (f + n))) f (f + n)).length = n := by rw [cut_len _ _ _ (by omega)]; omega
    rw [if_neg hd, lay_at _ _ _ (by rw [hc]; omega), hc]
    by_cases c1 : a ≤ i ∧ i < a + n
    · rw [if_pos c1, if_pos c1, cut_at _ _ _ _ (by omega), grw_at]
      congr 1
      omega
    · rw [if_neg c1, if_neg c1, grw_at]
theorem cpy_len (m : By) (a f n : Nat) (h : Mw m) : m.length ≤ (cpy m a f n).length ∧ (n ≠ 0 → a + n ≤ (cpy m a f n).length ∧ f + n ≤ (cpy m a f n).length) := by
  unfold cpy
  by_cases hd : n = 0
  · rw [if_pos hd]
    exact ⟨Nat.le_refl _, fun h => absurd hd h⟩
  · have hg := grw_ge m (max (a + n) (f + n)) h.1
    have hc : (cut (grw m (max (a + n) (f + n))) f (f + n)).length = n := by rw [cut_len _ _ _ (by omega)]; omega
    rw [if_neg hd, lay_len _ _ _ (by rw [hc]; omega)]
    refine ⟨by rw [grw_len m _ h.1]; omega, fun _ => by omega⟩
/-- A word is loaded, and stored. -/
def rdw (m : By) (a : Nat) : By := cut (grw m (a + 32)) a (a + 32)
theorem rdw_len (m : By) (a : Nat) (h : Mw m) : (rdw m a).length = 32 := by
  unfold rdw
  rw [cut_len _ _ _ (grw_ge m _ h.1)]
  omega
theorem rdw_at (m : By) (a j : Nat) (h : j < 32) : (rdw m a).getD j 0 = m.getD (a + j) 0 := by
  unfold rdw
  rw [cut_at _ _ _ _ (by omega), grw_at]
theorem rdw_eq (m m' : By) (a : Nat) (h : Mw m) (h' : Mw m') (he : ∀ j, j < 32 → m.getD (a + j) 0 = m'.getD (a + j) 0) : rdw m a = rdw m' a := by
  apply ext_at
  · rw [rdw_len m a h, rdw_len m' a h']
  · intro j
    by_cases hj : j < 32
    · rw [rdw_at m a j hj, rdw_at m' a j hj, he j hj]
    · simp only [List.getD_eq_getElem?_getD]
      rw [List.getElem?_eq_none (by rw [rdw_len m a h]; omega), List.getElem?_eq_none (by rw [rdw_len m' a h']; omega)]
theorem dn_load (m : By) (a : Nat) : dn m ⟨1, a, 0, 0, 0, []⟩ = if a + 32 ≤ 4096 then ((0, Pk.vb 0 (rdw m a), gco m (a + 32)), grw m (a + 32)) else ((6, 0, 0), m) := by
  by_cases h : a + 32 ≤ 4096
  · have e : (spans ⟨1, a, 0, 0, 0, []⟩).2.2 = 0 := by simp [spans, tch, spn, h]
    rw [if_pos h]
    unfold dn
    rw [if_neg (by rw [e]; simp), if_pos rfl]
    rfl
  · have e : (spans ⟨1, a, 0, 0, 0, []⟩).2.2 = 6 := by simp [spans, tch, spn, h]
    rw [if_neg h]
    unfold dn
    rw [if_pos (by rw [e]; simp), e]
theorem dn_store (m : By) (a x : Nat) : dn m ⟨2, a, 0, 0, x, []⟩ = if a + 32 ≤ 4096 then ((0, 0, gco m (a + 32)), lay (grw m (a + 32)) a (Pk.wb x)) else ((6, 0, 0), m) := by
  by_cases h : a + 32 ≤ 4096
  · have e : (spans ⟨2, a, 0, 0, x, []⟩).2.2 = 0 := by simp [spans, tch, spn, h]
    rw [if_pos h]
    unfold dn
    rw [if_neg (by rw [e]; simp), if_neg (by show ¬ (2 : Int) = 1; decide), if_pos rfl]
  · have e : (spans ⟨2, a, 0, 0, x, []⟩).2.2 = 6 := by simp [spans, tch, spn, h]
    rw [if_neg h]
    unfold dn
    rw [if_pos (by rw [e]; simp), e]
theorem gco_no (m : By) (e : Nat) (h : e ≤ m.length) (hm : m.length % 32 = 0) : gco m e = 0 ∧ grw m e = m := by
  unfold gco grw
  rw [if_pos (by omega), show (e + 31) / 32 - m.length / 32 = 0 by omega]
  exact ⟨rfl, by simp⟩
end Mm
end Go.Proofs.Ytcpgcdffienobaa
/- memory.Play upon rows of one's own; what the laws of memory walk over. -/
namespace Go.Proofs.Ytcpgcdffienobaa
namespace Mm
open Go.RowKit Pk
theorem vw_bs2 {b : By} {ao : Option Addr} {cap : Nat} {w : World} (hc : b.length ≤ cap) (h : Sp.Vw b ao w) : Tr.Bs (· < w.heap.size) b (.slice ao b.length cap) w :=
  ⟨ao, cap, rfl, hc, fun h0 => by
    obtain ⟨g, off, e, hg, hx⟩ := h h0
    exact ⟨g, off, e, hg, hg, hx⟩⟩
/-- Data that came in is where it was. -/
theorem Bs_in {b : By} {v : Value} {w w' : World} (h : Tr.Bs (· < w.heap.size) b v w) (hb : Below w.heap.size w w') : Tr.Bs (· < w'.heap.size) b v w' :=
  Tr.Bs_mono (Bs_below h hb) (fun _ _ h2 => h2)
theorem Oo_in {B : Nat} {zs : List OV} {v : Value} {W : World} (h : Oo B zs v W) (hd : ∀ x, x ∈ zs → Tr.Bs (· < W.heap.size) x.1.d x.2 W) : Mr (· < W.heap.size) (zs.map (·.1)) v W :=
  Oo_Mr h hd (fun _ _ h => h)
/-- What Play answers, of which the bytes alone are asked. -/
def PB (m : By) (n : Nat) (w : World) (e : Ending) (w' : World) : Prop := ∃ (ga : Nat) (ua : Option Addr) (uc : Nat), e = .returned (.tuple #[.slice (some ⟨ga, 0, none⟩) n n, .slice ua m.length uc]) ∧ Tr.Bs (fun _ => True) m (.slice ua m.length uc) w' ∧ Below w.heap.size w w'
theorem play_pb (l : List Mo) (hl : ∀ j, j < l.length → Wf (l.getD j no)) (hz : l.length ≤ 1048576) (v : Value) (w : World) (hm : Mr (· < w.heap.size) l v w) (m : By) (he : m = mi l l.length) (n : Nat) (hn : n = l.length) :
    Calls Try.prog 9 #[v] w (PB m n w) := by
  subst he hn
  refine (play_any l hl hz v w hm).mono ?_
  rintro e w' ⟨ga, u, rfl, hr, hb⟩
  have hq : Tr.Bs (fun _ => True) (mi l l.length) u w' := Tr.Bs_mono hr.b (fun _ _ _ => trivial)
  obtain ⟨ua, uc, rfl, h1, h2⟩ := hq
  exact ⟨ga, ua, uc, rfl, ⟨ua, uc, rfl, h1, h2⟩, hb⟩
theorem wf_in (l : List Mo) (h : ∀ x, x ∈ l → Wf x) : ∀ j, j < l.length → Wf (l.getD j no) := fun j hj => h _ (getD_mem l no j hj)
theorem wf_mem {l : List Mo} (h : ∀ j, j < l.length → Wf (l.getD j no)) : ∀ x, x ∈ l → Wf x := fun x hx => by
  obtain ⟨j, hj, rfl⟩ := mem_getD l no x hx
  exact h j hj
/-- Operations that are laid in a row at once. -/
theorem lit_VO (ys : List OV) (cs : Array Value) (hcs : cs = (OC ys).toArray) (T : TypeId) (x : Nat × Nat) (w : World) (n : Nat) (hn : n = ys.length) : VO ys (.slice (some ⟨w.heap.size, 0, none⟩) n n) (w.alloc (.cells cs T x)) := by
  subst hcs hn
  refine ⟨some ⟨w.heap.size, 0, none⟩, ys.length, rfl, fun _ => ⟨w.heap.size, 0, rfl, by simp, fun j hj => ?_⟩⟩
  have h := heap_alloc_new w (.cells (OC ys).toArray T x)
  simp only [World.cell?, h, Nat.zero_add]
  have hj2 : j < (OC ys).length := by rw [OC_len]; exact hj
  simp [List.getElem?_eq_getElem hj2]
theorem bs_vl {S : Nat → Prop} {b : By} {v : Value} {w : World} (h : Tr.Bs S b v w) : Sp.Vl (bcs b) v w := by
  obtain ⟨ao, cap, e, _, hr⟩ := h
  have hl : (bcs b).length = b.length := by simp [bcs]
  refine ⟨ao, cap, by rw [hl]; exact e, fun h0 => ?_⟩
  rw [hl] at h0
  obtain ⟨g, off, e2, _, hlt, hc⟩ := hr h0
  refine ⟨g, off, e2, hlt, fun j hj => ?_⟩
  rw [hl] at hj
  rw [hc j hj]
  simp [bcs, hj, Sp.bz]
/-- slices.Concat of two texts. -/
theorem cat_two {S : Nat → Prop} {a b : By} {x y : Value} {W : World} (T : TypeId) (ex : Nat × Nat) (ha : Tr.Bs S a x W) (hb : Tr.Bs S b y W) (hz : a.length + b.length ≤ 1048576) :
    Calls Try.prog 20 #[.slice (some ⟨W.heap.size, 0, none⟩) 2 2] (W.alloc (.cells #[x, y] T ex)) fun e w' => ∃ c, e = .returned c ∧ w'.ownsRow (W.heap.size + 1) 5 1 c (a ++ b).length (bcs (a ++ b)) ∧ Below (W.heap.size + 1) (W.alloc (.cells #[x, y] T ex)) w' := by
  have hs : (W.alloc (.cells #[x, y] T ex)).heap.size = W.heap.size + 1 := by simp
  have bl : Below W.heap.size W (W.alloc (.cells #[x, y] T ex)) := (Below.refl _ _).alloc (Nat.le_refl _) _
  have hf : [bcs a, bcs b].flatten = bcs (a ++ b) := by simp [bcs]
  have hfl : (bcs (a ++ b)).length = (a ++ b).length := by simp [bcs]
  have hN := heap_alloc_new W (.cells #[x, y] T ex)
  have k := Sp.concat_b [bcs a, bcs b] (.slice (some ⟨W.heap.size, 0, none⟩) 2 2) (W.alloc (.cells #[x, y] T ex)) (by show _ ≤ _; rw [hf, hfl, List.length_append]; exact hz) (by show 2 ≤ _; decide)
    (by
      intro xs hxs u hu
      simp only [List.mem_cons, List.not_mem_nil, or_false] at hxs
      rcases hxs with rfl | rfl <;> (unfold bcs at hu; obtain ⟨c, _, rfl⟩ := List.mem_map.1 hu; rfl))
    ⟨some ⟨W.heap.size, 0, none⟩, 2, rfl, fun _ => ⟨W.heap.size, 0, rfl, by simp, fun i hi => by
      have : i = 0 ∨ i = 1 := by
        have : i < 2 := hi
        omega
      rcases this with rfl | rfl
      · exact ⟨x, by simp only [World.cell?, hN]; rfl, Sp.Vl_below (bs_vl ha) bl⟩
      · exact ⟨y, by simp only [World.cell?, hN]; rfl, Sp.Vl_below (bs_vl hb) bl⟩⟩⟩
  rw [hf, hfl, hs] at k
  exact k
end Mm
end Go.Proofs.Ytcpgcdffienobaa
/- lampbearerkeep.MemoryParts. -/
namespace Go.Proofs.Ytcpgcdffienobaa
namespace Mm
open Go.RowKit Pk
set_option maxHeartbeats 2000000 in
set_option maxRecDepth 100000 in
theorem parts_1 (v : Value) (t : Int) (A B : Nat) (_h0 : Hid (0 ≤ t)) (h1 : (4096 : Int) < t) (aa ab : Option Addr) (ca cb : Nat) (w : World) : Calls Try.prog 8 #[v, .int .u64 t, .slice aa A ca, .slice ab B cb] w fun e w' => e = .returned (.bool true) ∧ Below w.heap.size w w' := by
  have H1 : Hid _ := h1
  clear h1
  have f1 : decide ((4096 : Int) < t) = true := decide_eq_true H1.out
  have f1c : (4096 : Int) < t := H1.out
  go_enter Try.func8, Try.ntmps8
  go_wp2_with fail
  refine (alive_any w).mono ?_
  rintro e w1 ⟨rfl, b1⟩
  have B1 : Hid _ := b1
  clear b1
  go_wp2_with fail
  go_ret
  exact ⟨rfl, B1.out⟩
set_option maxHeartbeats 2000000 in
set_option maxRecDepth 100000 in
theorem parts_2 (v : Value) (t : Int) (A B : Nat) (_h0 : Hid (0 ≤ t)) (h1 : t ≤ 4096) (h2 : 4096 < A) (aa ab : Option Addr) (ca cb : Nat) (w : World) : Calls Try.prog 8 #[v, .int .u64 t, .slice aa A ca, .slice ab B cb] w fun e w' => e = .returned (.bool true) ∧ Below w.heap.size w w' := by
  have H1 : Hid _ := h1
  have H2 : Hid _ := h2
  clear h1 h2
  have f1 : decide ((4096 : Int) < t) = false := decide_eq_false (by have := H1.out; omega)
  have f2 : decide (4096 < A) = true := decide_eq_true H2.out
  have f2b : decide ((4096 : Int) < (A : Int)) = true := decide_eq_true (by have := H2.out; omega)
  have f2c : (4096 : Int) < (A : Int) := by have := H2.out; omega
  have f1c : ¬ (4096 : Int) < t := by have := H1.out; omega
  go_enter Try.func8, Try.ntmps8
  go_wp2_with fail
  refine (alive_any w).mono ?_
  rintro e w1 ⟨rfl, b1⟩
  have B1 : Hid _ := b1
  clear b1
  go_wp2_with fail
  go_ret
  exact ⟨rfl, B1.out⟩
set_option maxHeartbeats 2000000 in
set_option maxRecDepth 100000 in
theorem parts_3 (v : Value) (t : Int) (A B : Nat) (_h0 : Hid (0 ≤ t)) (h1 : t ≤ 4096) (h2 : A ≤ 4096) (h3 : 4096 < B) (aa ab : Option Addr) (ca cb : Nat) (w : World) : Calls Try.prog 8 #[v, .int .u64 t, .slice aa A ca, .slice ab B cb] w fun e w' => e = .returned (.bool true) ∧ Below w.heap.size w w' := by
  have H1 : Hid _ := h1
  have H2 : Hid _ := h2
  have H3 : Hid _ := h3
  clear h1 h2 h3
  have f1 : decide ((4096 : Int) < t) = false := decide_eq_false (by have := H1.out; omega)
  have f2 : decide (4096 < A) = false := decide_eq_false (by have := H2.out; omega)
  have f2b : decide ((4096 : Int) < (A : Int)) = false := decide_eq_false (by have := H2.out; omega)
  have f3 : decide (4096 < B) = true := decide_eq_true H3.out
  have f3b : decide ((4096 : Int) < (B : Int)) = true := decide_eq_true (by have := H3.out; omega)
  have f3c : (4096 : Int) < (B : Int) := by have := H3.out; omega
  have f1c : ¬ (4096 : Int) < t := by have := H1.out; omega
  have f2c : ¬ (4096 : Int) < (A : Int) := by have := H2.out; omega
  go_enter Try.func8, Try.ntmps8
  go_wp2_with fail
  refine (alive_any w).mono ?_
  rintro e w1 ⟨rfl, b1⟩
  have B1 : Hid _ := b1
  clear b1
  go_wp2_with fail
  go_ret
  exact ⟨rfl, B1.out⟩
set_option maxHeartbeats 2000000 in
set_option maxRecDepth 100000 in
theorem parts_4 (v : Value) (t : Int) (A B : Nat) (h0 : Hid (0 ≤ t)) (h1 : t ≤ 4096) (h2 : A ≤ 4096) (h3 : B ≤ 4096) (h4 : (4096 : Int) < t + A + B) (aa ab : Option Addr) (ca cb : Nat) (w : World) : Calls Try.prog 8 #[v, .int .u64 t, .slice aa A ca, .slice ab B cb] w fun e w' => e = .returned (.bool true) ∧ Below w.heap.size w w' := by
  have H1 : Hid _ := h1
  have H2 : Hid _ := h2
  have H3 : Hid _ := h3
  have H4 : Hid _ := h4
  clear h1 h2 h3 h4
  have f1 : decide ((4096 : Int) < t) = false := decide_eq_false (by have := H1.out; omega)
  have f2 : decide (4096 < A) = false := decide_eq_false (by have := H2.out; omega)
  have f2b : decide ((4096 : Int) < (A : Int)) = false := decide_eq_false (by have := H2.out; omega)
  have f3 : decide (4096 < B) = false := decide_eq_false (by have := H3.out; omega)
  have f3b : decide ((4096 : Int) < (B : Int)) = false := decide_eq_false (by have := H3.out; omega)
  have g0' : wrap64 t = t := by have := H1.out; have := h0.out; unfold wrap64; omega
  have g1' : wrap64 (t + A) = t + A := by have := H1.out; have := h0.out; have := H2.out; unfold wrap64; omega
  have g2' : wrap64 (t + A + B) = t + A + B := by have := H1.out; have := h0.out; have := H2.out; have := H3.out; unfold wrap64; omega
  have f4 : decide ((4096 : Int) < t + A + B) = true := decide_eq_true H4.out
  have f4c : (4096 : Int) < t + A + B := H4.out
  have f1c : ¬ (4096 : Int) < t := by have := H1.out; omega
  have f2c : ¬ (4096 : Int) < (A : Int) := by have := H2.out; omega
  have f3c : ¬ (4096 : Int) < (B : Int) := by have := H3.out; omega
  go_enter Try.func8, Try.ntmps8
  go_wp2_with fail
  refine (alive_any w).mono ?_
  rintro e w1 ⟨rfl, b1⟩
  have B1 : Hid _ := b1
  clear b1
  go_wp2_with fail
  go_ret
  exact ⟨rfl, B1.out⟩
theorem dgz : dg 0 0 = 0 ∧ dg 0 1 = 0 ∧ dg 0 2 = 0 ∧ dg 0 3 = 0 := by decide
theorem oc5 (t : Nat) (d : By) (v : Value) : ocl ⟨5, t, 0, 0, 0, d⟩ v = [.int .i64 5, .int .u64 (dg t 0), .int .u64 (dg t 1), .int .u64 (dg t 2), .int .u64 (dg t 3), .int .u64 0, .int .u64 0, .int .u64 0, .int .u64 0, .int .u64 0, .int .u64 0, .int .u64 0, .int .u64 0, .int .u64 0, .int .u64 0, .int .u64 0, .int .u64 0, v] := by
  unfold ocl
  rw [dgz.1, dgz.2.1, dgz.2.2.1, dgz.2.2.2]
theorem lit2 (t A B ca cb : Nat) (a b : By) (aa ab : Option Addr) : #[.int .i64 5, .int .u64 (dg t 0), .int .u64 (dg t 1), .int .u64 (dg t 2), .int .u64 (dg t 3), .int .u64 0, .int .u64 0, .int .u64 0, .int .u64 0, .int .u64 0, .int .u64 0, .int .u64 0, .int .u64 0, .int .u64 0, .int .u64 0, .int .u64 0, .int .u64 0, .slice aa A ca, .int .i64 5, .int .u64 (dg (t + A) 0), .int .u64 (dg (t + A) 1), .int .u64 (dg (t + A) 2), .int .u64 (dg (t + A) 3), .int .u64 0, .int .u64 0, .int .u64 0, .int .u64 0, .int .u64 0, .int .u64 0, .int .u64 0, .int .u64 0, .int .u64 0, .int .u64 0, .int .u64 0, .int .u64 0, .slice ab B cb] = (OC [(⟨5, t, 0, 0, 0, a⟩, .slice aa A ca), (⟨5, t + A, 0, 0, 0, b⟩, .slice ab B cb)]).toArray := by
  show _ = (ocl _ _ ++ (ocl _ _ ++ [])).toArray
  rw [oc5, oc5]
  rfl
theorem lit1 (t A B cc : Nat) (d : By) (ac : Option Addr) : #[.int .i64 5, .int .u64 (dg t 0), .int .u64 (dg t 1), .int .u64 (dg t 2), .int .u64 (dg t 3), .int .u64 0, .int .u64 0, .int .u64 0, .int .u64 0, .int .u64 0, .int .u64 0, .int .u64 0, .int .u64 0, .int .u64 0, .int .u64 0, .int .u64 0, .int .u64 0, .slice ac (A + B) cc] = (OC [(⟨5, t, 0, 0, 0, d⟩, .slice ac (A + B) cc)]).toArray := by
  show _ = (ocl _ _ ++ []).toArray
  rw [oc5]
  rfl
set_option maxHeartbeats 4000000 in
set_option maxRecDepth 100000 in
theorem parts_in (l : List Mo) (xs : List OV) (n t A B : Nat) (a b m0 m1 : By) (hxs : Hid (xs.map (·.1) = l)) (hl : Hid (∀ x, x ∈ l → Wf x)) (hn : Hid (n = l.length ∧ n + 2 ≤ 1048576)) (hA : Hid (A = a.length)) (hB : Hid (B = b.length))
    (hm0 : Hid (m0 = mi l n)) (hm1 : Hid (m1 = mi (l ++ [⟨5, t, 0, 0, 0, a⟩, ⟨5, t + A, 0, 0, 0, b⟩]) (n + 2))) (hm2 : Hid (m1 = mi (l ++ [⟨5, t, 0, 0, 0, a ++ b⟩]) (n + 1))) (hle : Hid (m0.length ≤ m1.length)) (ht : Hid (t + A + B ≤ 4096))
    (ao aa ab : Option Addr) (cap ca cb : Nat) (w : World) (hv : Hid (VO xs (.slice ao n cap) w ∧ ∀ x, x ∈ xs → Tr.Bs (· < w.heap.size) x.1.d x.2 w)) (hm : Hid (Mr (· < w.heap.size) l (.slice ao n cap) w)) (ha : Hid (Tr.Bs (· < w.heap.size) a (.slice aa A ca) w)) (hb : Hid (Tr.Bs (· < w.heap.size) b (.slice ab B cb) w)) :
    Calls Try.prog 8 #[.slice ao n cap, .int .u64 (t : Int), .slice aa A ca, .slice ab B cb] w fun e w' => e = .returned (.bool true) ∧ Below w.heap.size w w' := by
  have f1 : decide ((4096 : Int) < (t : Int)) = false := decide_eq_false (by have := ht.out; omega)
  have f1c : ¬ (4096 : Int) < (t : Int) := by have := ht.out; omega
  have f2 : decide (4096 < A) = false := decide_eq_false (by have := ht.out; omega)
  have f2b : decide ((4096 : Int) < (A : Int)) = false := decide_eq_false (by have := ht.out; omega)
  have f2c : ¬ (4096 : Int) < (A : Int) := by have := ht.out; omega
  have f3 : decide (4096 < B) = false := decide_eq_false (by have := ht.out; omega)
  have f3b : decide ((4096 : Int) < (B : Int)) = false := decide_eq_false (by have := ht.out; omega)
  have f3c : ¬ (4096 : Int) < (B : Int) := by have := ht.out; omega
  have g0' : wrap64 (t : Int) = t := by have := ht.out; unfold wrap64; omega
  have g1' : wrap64 ((t : Int) + A) = t + A := by have := ht.out; unfold wrap64; omega
  have g2' : wrap64 ((t : Int) + A + B) = t + A + B := by have := ht.out; unfold wrap64; omega
  have f4 : decide ((4096 : Int) < (t : Int) + A + B) = false := decide_eq_false (by have := ht.out; omega)
  have f4c : ¬ (4096 : Int) < (t : Int) + A + B := by have := ht.out; omega
  have u1 : IntKind.u64.wrap (A : Int) = A := by show (A : Int) % 18446744073709551616 = A; have := ht.out; omega
  have u2 : IntKind.u64.wrap ((t : Int) + A) = t + A := by show ((t : Int) + A) % 18446744073709551616 = t + A; have := ht.out; omega
  have HX : Hid (xs.length = n) := by
    show _ = _
    rw [hn.out.1, ← hxs.out, List.length_map]
  have W5 : ∀ (q : Nat) (c : By), q ≤ 4096 → c.length ≤ 4096 → Wf ⟨5, q, 0, 0, 0, c⟩ := fun q c h1 h2 => ⟨by show q < 2 ^ 256; omega, by show 0 < 2 ^ 256; decide, by show 0 < 2 ^ 256; decide, by show c.length ≤ _; omega⟩
  have KP0 : Hid (∀ W : World, Below w.heap.size w W → Calls Try.prog 9 #[.slice ao n cap] W (PB m0 n W)) := fun W hb => play_pb l (wf_in l hl.out) (by have := hn.out; omega) _ W (Mr_below hm.out hb) m0 (by rw [← hn.out.1]; exact hm0.out) n hn.out.1
  have KC : Hid (∀ W : World, Below w.heap.size w W → Calls Try.prog 15 #[.slice ao n cap] W fun e w' => ∃ z, e = .returned z ∧ Oo W.heap.size xs z w' ∧ Below W.heap.size W w') := fun W hb => clone_op xs _ W (VO_below hv.out.1 hb) (fun x hx => Bs_isSl (hv.out.2 x hx)) (by have := hn.out; have := HX.out; omega)
  have KP1 : Hid (∀ (W : World) (Bs : Nat) (v : Value), Below w.heap.size w W → Oo Bs (xs ++ [(⟨5, t, 0, 0, 0, a⟩, .slice aa A ca), (⟨5, t + A, 0, 0, 0, b⟩, .slice ab B cb)]) v W → Calls Try.prog 9 #[v] W (PB m1 (n + 2) W)) := fun W Bs v hb1 ho => by
    have hM := Oo_in ho (fun x hx => by
      rcases List.mem_append.1 hx with h | h
      · exact Bs_in (hv.out.2 x h) hb1
      · simp only [List.mem_cons, List.not_mem_nil, or_false] at h
        rcases h with rfl | rfl
        · exact Bs_in ha.out hb1
        · exact Bs_in hb.out hb1)
    rw [List.map_append, hxs.out] at hM
    have hlen : (l ++ [(⟨5, t, 0, 0, 0, a⟩ : Mo), ⟨5, t + A, 0, 0, 0, b⟩]).length = n + 2 := by rw [List.length_append, hn.out.1]; rfl
    have hM : Mr (· < W.heap.size) (l ++ [(⟨5, t, 0, 0, 0, a⟩ : Mo), ⟨5, t + A, 0, 0, 0, b⟩]) v W := hM
    refine play_pb _ (wf_in _ (fun x hx => ?_)) (by rw [hlen]; exact hn.out.2) v W hM m1 (by rw [hlen]; exact hm1.out) (n + 2) hlen.symm
    rcases List.mem_append.1 hx with h | h
    · exact hl.out x h
    · have := ht.out
      have := hA.out
      have := hB.out
      simp only [List.mem_cons, List.not_mem_nil, or_false] at h
      rcases h with rfl | rfl
      · exact W5 _ _ (by omega) (by omega)
      · exact W5 _ _ (by omega) (by omega)
  have KP2 : Hid (∀ (W : World) (Bs : Nat) (v c : Value), Below w.heap.size w W → Oo Bs (xs ++ [(⟨5, t, 0, 0, 0, a ++ b⟩, c)]) v W → Tr.Bs (· < W.heap.size) (a ++ b) c W → Calls Try.prog 9 #[v] W (PB m1 (n + 1) W)) := fun W Bs v c hb1 ho hc => by
    have hM := Oo_in ho (fun x hx => by
      rcases List.mem_append.1 hx with h | h
      · exact Bs_in (hv.out.2 x h) hb1
      · simp only [List.mem_cons, List.not_mem_nil, or_false] at h
        subst h
        exact hc)
    rw [List.map_append, hxs.out] at hM
    have hlen : (l ++ [(⟨5, t, 0, 0, 0, a ++ b⟩ : Mo)]).length = n + 1 := by rw [List.length_append, hn.out.1]; rfl
    have hM : Mr (· < W.heap.size) (l ++ [(⟨5, t, 0, 0, 0, a ++ b⟩ : Mo)]) v W := hM
    refine play_pb _ (wf_in _ (fun x hx => ?_)) (by rw [hlen]; have := hn.out.2; omega) v W hM m1 (by rw [hlen]; exact hm2.out) (n + 1) hlen.symm
    rcases List.mem_append.1 hx with h | h
    · exact hl.out x h
    · have := ht.out
      have := hA.out
      have := hB.out
      simp only [List.mem_cons, List.not_mem_nil, or_false] at h
      subst h
      exact W5 _ _ (by omega) (by rw [List.length_append]; omega)
  have KI : Hid (∀ W : World, Calls Try.prog 18 #[.int .u64 (t : Int)] W fun e w' => e = .returned (.agg #[.int .u64 (dg t 0), .int .u64 (dg t 1), .int .u64 (dg t 2), .int .u64 (dg t 3)]) ∧ Below W.heap.size W w') := fun W => int_any t (by have := ht.out; omega) W
  have KJ : Hid (∀ W : World, Calls Try.prog 18 #[.int .u64 ((t : Int) + A)] W fun e w' => e = .returned (.agg #[.int .u64 (dg (t + A) 0), .int .u64 (dg (t + A) 1), .int .u64 (dg (t + A) 2), .int .u64 (dg (t + A) 3)]) ∧ Below W.heap.size W w') := fun W => by
    have := int_any (t + A) (by have := ht.out; omega) W
    exact this
  clear W5
  go_enter Try.func8, Try.ntmps8
  go_wp2_with fail
  refine (alive_any w).mono ?_
  rintro e w1 ⟨rfl, b1⟩
  have B1 : Hid _ := b1
  clear b1
  go_wp2_with fail
  refine (KP0.out w1 B1.out).mono ?_
  rintro e w2 ⟨ga0, ua0, uc0, rfl, q2, b2⟩
  have B2 : Hid (Below w.heap.size w w2) := B1.out.trans (b2.mono B1.out.size)
  clear b2 B1 KP0 q2
  go_wp2_with fail
  refine (KC.out w2 B2.out).mono ?_
  rintro e w3 ⟨z, rfl, o3, b3⟩
  have B3 : Hid (Below w.heap.size w w3) := B2.out.trans (b3.mono B2.out.size)
  have O3 : Hid (Oo w2.heap.size xs z w3) := o3
  have Z3 : Hid (w2.heap.size ≤ w3.heap.size ∧ w.heap.size ≤ w2.heap.size) := ⟨b3.size, B2.out.size⟩
  clear b3 B2 o3
  go_wp2_with fail
  refine (KI.out w3).mono ?_
  rintro e w4 ⟨rfl, b4⟩
  have B4 : Hid (Below w.heap.size w w4) := B3.out.trans (b4.mono B3.out.size)
  have O4 : Hid (Oo w2.heap.size xs z w4) := Oo_below O3.out b4
  have Z4 : Hid (w2.heap.size ≤ w4.heap.size ∧ w.heap.size ≤ w2.heap.size) := ⟨Nat.le_trans Z3.out.1 b4.size, Z3.out.2⟩
  clear b4 B3 O3 Z3
  go_wp2_with fail
  refine (KJ.out w4).mono ?_
  rintro e w5 ⟨rfl, b5⟩
  have b6 : Below w5.heap.size w5 (w5.alloc (.cells #[.int .i64 5, .int .u64 (dg t 0), .int .u64 (dg t 1), .int .u64 (dg t 2), .int .u64 (dg t 3), .int .u64 0, .int .u64 0, .int .u64 0, .int .u64 0, .int .u64 0, .int .u64 0, .int .u64 0, .int .u64 0, .int .u64 0, .int .u64 0, .int .u64 0, .int .u64 0, .slice aa A ca, .int .i64 5, .int .u64 (dg (t + A) 0), .int .u64 (dg (t + A) 1), .int .u64 (dg (t + A) 2), .int .u64 (dg (t + A) 3), .int .u64 0, .int .u64 0, .int .u64 0, .int .u64 0, .int .u64 0, .int .u64 0, .int .u64 0, .int .u64 0, .int .u64 0, .int .u64 0, .int .u64 0, .int .u64 0, .slice ab B cb] 38 (0, 0))) := (Below.refl _ _).alloc (Nat.le_refl _) _
  have B6 : Below w.heap.size w (w5.alloc (.cells #[.int .i64 5, .int .u64 (dg t 0), .int .u64 (dg t 1), .int .u64 (dg t 2), .int .u64 (dg t 3), .int .u64 0, .int .u64 0, .int .u64 0, .int .u64 0, .int .u64 0, .int .u64 0, .int .u64 0, .int .u64 0, .int .u64 0, .int .u64 0, .int .u64 0, .int .u64 0, .slice aa A ca, .int .i64 5, .int .u64 (dg (t + A) 0), .int .u64 (dg (t + A) 1), .int .u64 (dg (t + A) 2), .int .u64 (dg (t + A) 3), .int .u64 0, .int .u64 0, .int .u64 0, .int .u64 0, .int .u64 0, .int .u64 0, .int .u64 0, .int .u64 0, .int .u64 0, .int .u64 0, .int .u64 0, .int .u64 0, .slice ab B cb] 38 (0, 0))) := (B4.out.trans (b5.mono B4.out.size)).trans (b6.mono (Nat.le_trans B4.out.size b5.size))
  obtain ⟨v7, w7, hap, o7, g7⟩ := app_op 22 (Oo_below (Oo_below O4.out b5) b6) (lit_VO [(⟨5, t, 0, 0, 0, a⟩, .slice aa A ca), (⟨5, t + A, 0, 0, 0, b⟩, .slice ab B cb)] _ (lit2 t A B ca cb a b aa ab) 38 (0, 0) w5 2 rfl) (fun x hx => by
    simp only [List.mem_cons, List.not_mem_nil, or_false] at hx
    rcases hx with rfl | rfl
    · exact ⟨_, _, _, rfl⟩
    · exact ⟨_, _, _, rfl⟩) (Nat.le_trans Z4.out.1 (Nat.le_trans b5.size b6.size)) (by have := hn.out; have := HX.out; show xs.length + 2 ≤ _; omega)
  have B7 : Hid (Below w.heap.size w w7) := B6.trans ((Below.refl _ _).grown g7 B6.size (fun k hk => Nat.le_trans Z4.out.2 (Sp.own_lo (Oo_below (Oo_below O4.out b5) b6) k hk).1))
  have O7 : Hid (Oo w2.heap.size (xs ++ [(⟨5, t, 0, 0, 0, a⟩, .slice aa A ca), (⟨5, t + A, 0, 0, 0, b⟩, .slice ab B cb)]) v7 w7) := o7
  clear b5 b6 B6 B4 O4 Z4 o7 g7
  go_wp2_with (at_builtin; refine Tr.wpList_apw rfl rfl rfl rfl hap ?_)
  refine (KP1.out w7 w2.heap.size v7 B7.out O7.out).mono ?_
  rintro e w8 ⟨ga1, ua1, uc1, rfl, q8, b8⟩
  have B8 : Hid (Below w.heap.size w w8) := B7.out.trans (b8.mono B7.out.size)
  have Q8 : Hid (Tr.Bs (fun _ => True) m1 (.slice ua1 m1.length uc1) w8) := q8
  clear b8 B7 O7 KP1 q8 hap KJ
  go_wp2_with fail
  refine (KC.out w8 B8.out).mono ?_
  rintro e w9 ⟨z9, rfl, o9, b9⟩
  have B9 : Hid (Below w.heap.size w w9) := B8.out.trans (b9.mono B8.out.size)
  have O9 : Hid (Oo w8.heap.size xs z9 w9) := o9
  have Q9 : Hid (Tr.Bs (fun k => k < w8.heap.size) m1 (.slice ua1 m1.length uc1) w9) := Tr.Bs_mono (Bs_below (Tr.Bs_mono Q8.out (fun k _ h => h) : Tr.Bs (fun k => k < w8.heap.size) _ _ _) b9) (fun _ h _ => h)
  have Z9 : Hid (w8.heap.size ≤ w9.heap.size ∧ w.heap.size ≤ w8.heap.size) := ⟨b9.size, B8.out.size⟩
  clear b9 B8 o9 Q8 KC
  go_wp2_with fail
  refine (KI.out w9).mono ?_
  rintro e w10 ⟨rfl, b10⟩
  have B10 : Hid (Below w.heap.size w w10) := B9.out.trans (b10.mono B9.out.size)
  have O10 : Hid (Oo w8.heap.size xs z9 w10) := Oo_below O9.out b10
  have Q10 : Hid (Tr.Bs (fun k => k < w8.heap.size) m1 (.slice ua1 m1.length uc1) w10) := Bs_below Q9.out b10
  have Z10 : Hid (w8.heap.size ≤ w10.heap.size ∧ w.heap.size ≤ w8.heap.size) := ⟨Nat.le_trans Z9.out.1 b10.size, Z9.out.2⟩
  clear b10 B9 O9 Q9 Z9 KI
  go_wp2_with fail
  refine (cat_two 24 (0, 0) (Bs_in ha.out B10.out) (Bs_in hb.out B10.out) (by have := ht.out; have := hA.out; have := hB.out; omega)).mono ?_
  rintro e w12 ⟨c, rfl, o12, b12⟩
  have hab : (a ++ b).length = A + B := by rw [List.length_append, hA.out, hB.out]
  obtain ⟨ac, cc, ec⟩ := own_form o12
  rw [hab] at ec
  subst ec
  have c12 := own_bs o12 (Nat.le_refl _)
  have b11 : Below w10.heap.size w10 (w10.alloc (.cells #[.slice aa A ca, .slice ab B cb] 24 (0, 0))) := (Below.refl _ _).alloc (Nat.le_refl _) _
  have b13 : Below w12.heap.size w12 (w12.alloc (.cells #[.int .i64 5, .int .u64 (dg t 0), .int .u64 (dg t 1), .int .u64 (dg t 2), .int .u64 (dg t 3), .int .u64 0, .int .u64 0, .int .u64 0, .int .u64 0, .int .u64 0, .int .u64 0, .int .u64 0, .int .u64 0, .int .u64 0, .int .u64 0, .int .u64 0, .int .u64 0, .slice ac (A + B) cc] 38 (0, 0))) := (Below.refl _ _).alloc (Nat.le_refl _) _
  have s12 : w10.heap.size ≤ w12.heap.size := Nat.le_trans b11.size b12.size
  have t13 : Below w10.heap.size w10 (w12.alloc (.cells #[.int .i64 5, .int .u64 (dg t 0), .int .u64 (dg t 1), .int .u64 (dg t 2), .int .u64 (dg t 3), .int .u64 0, .int .u64 0, .int .u64 0, .int .u64 0, .int .u64 0, .int .u64 0, .int .u64 0, .int .u64 0, .int .u64 0, .int .u64 0, .int .u64 0, .int .u64 0, .slice ac (A + B) cc] 38 (0, 0))) := (b11.trans (b12.mono (Nat.le_succ _))).trans (b13.mono s12)
  have B13 : Below w.heap.size w (w12.alloc (.cells #[.int .i64 5, .int .u64 (dg t 0), .int .u64 (dg t 1), .int .u64 (dg t 2), .int .u64 (dg t 3), .int .u64 0, .int .u64 0, .int .u64 0, .int .u64 0, .int .u64 0, .int .u64 0, .int .u64 0, .int .u64 0, .int .u64 0, .int .u64 0, .int .u64 0, .int .u64 0, .slice ac (A + B) cc] 38 (0, 0))) := B10.out.trans (t13.mono B10.out.size)
  have O13 := Oo_below O10.out t13
  obtain ⟨v14, w14, hap, o14, g14⟩ := app_op 22 O13 (lit_VO [(⟨5, t, 0, 0, 0, a ++ b⟩, .slice ac (A + B) cc)] _ (lit1 t A B cc (a ++ b) ac) 38 (0, 0) w12 1 rfl) (fun x hx => by
    simp only [List.mem_cons, List.not_mem_nil, or_false] at hx
    subst hx
    exact ⟨_, _, _, rfl⟩) (Nat.le_trans Z10.out.1 t13.size) (by have := hn.out; have := HX.out; show xs.length + 1 ≤ _; omega)
  have B14 : Hid (Below w.heap.size w w14) := B13.trans ((Below.refl _ _).grown g14 B13.size (fun k hk => Nat.le_trans Z10.out.2 (Sp.own_lo O13 k hk).1))
  have O14 : Hid (Oo w8.heap.size (xs ++ [(⟨5, t, 0, 0, 0, a ++ b⟩, .slice ac (A + B) cc)]) v14 w14) := o14
  have C14 : Hid (Tr.Bs (· < w14.heap.size) (a ++ b) (.slice ac (A + B) cc) w14) := Tr.Bs_mono (Tr.Bs_gb (Bs_below c12 b13) g14 (fun k hk e => by
    have := (Sp.own_lo O10.out k e.symm).2
    have hk : w10.heap.size + 1 ≤ k := hk
    omega)) (fun _ _ h => h)
  have Q14 : Hid (Tr.Bs (fun k => k < w8.heap.size) m1 (.slice ua1 m1.length uc1) w14) := Tr.Bs_gb (Bs_below Q10.out t13) g14 (fun k hk e => by
    have := (Sp.own_lo O10.out k e.symm).1
    have hk : k < w8.heap.size := hk
    omega)
  clear B10 O10 Q10 Z10 c12 b11 b13 s12 t13 B13 O13 o12 b12 g14 o14 hab
  go_wp2_with (at_builtin; refine Tr.wpList_apw rfl rfl rfl rfl hap ?_)
  refine (KP2.out w14 w8.heap.size v14 _ B14.out O14.out C14.out).mono ?_
  rintro e w15 ⟨ga2, ua2, uc2, rfl, q15, b15⟩
  have B15 : Hid (Below w.heap.size w w15) := B14.out.trans (b15.mono B14.out.size)
  have cv1 := Tr.Sl_st (Tr.Bs_sl (Bs_below Q14.out b15))
  have cv2 := Tr.Sl_st (Tr.Bs_sl q15)
  have dl : decide (m0.length ≤ m1.length) = true := decide_eq_true hle.out
  clear q15 b15 B14 O14 C14 Q14 KP2 hap
  go_wp2_with fail
  go_ret
  exact ⟨rfl, B15.out⟩
theorem law_parts (l : List Mo) (hl : ∀ j, j < l.length → Wf (l.getD j no)) (hz : l.length + 2 ≤ 1048576) (v : Value) (t : Int) (ht : 0 ≤ t) (a b : By) (aa ab : Option Addr) (ca cb : Nat) (w : World) (hm : Mr (· < w.heap.size) l v w) (ha : Tr.Bs (· < w.heap.size) a (.slice aa a.length ca) w) (hb : Tr.Bs (· < w.heap.size) b (.slice ab b.length cb) w) :
    Calls Try.prog 8 #[v, .int .u64 t, .slice aa a.length ca, .slice ab b.length cb] w fun e w' => e = .returned (.bool true) ∧ Below w.heap.size w w' := by
  by_cases h1 : (4096 : Int) < t
  · exact parts_1 v t _ _ ht h1 _ _ _ _ w
  by_cases h2 : 4096 < a.length
  · exact parts_2 v t _ _ ht (by omega) h2 _ _ _ _ w
  by_cases h3 : 4096 < b.length
  · exact parts_3 v t _ _ ht (by omega) (by omega) h3 _ _ _ _ w
  by_cases h4 : (4096 : Int) < t + a.length + b.length
  · exact parts_4 v t _ _ ht (by omega) (by omega) (by omega) h4 _ _ _ _ w
  obtain ⟨k, rfl⟩ : ∃ k : Nat, t = k := ⟨t.toNat, by omega⟩
  obtain ⟨xs, e1, e2, e3⟩ := Mr_VO hm
  have hm2 := hm
  obtain ⟨ds, ao, cap, _, rfl, _, _⟩ := hm2
  have hk : k + a.length + b.length ≤ 4096 := by omega
  obtain ⟨_, hw⟩ := pd_mi l l.length
  have m1 : mi (l ++ [⟨5, k, 0, 0, 0, a⟩, ⟨5, k + a.length, 0, 0, 0, b⟩]) (l.length + 2) = put (put (mi l l.length) k a) (k + a.length) b := by
    have q0 := mi_one l [⟨5, k, 0, 0, 0, a⟩, ⟨5, k + a.length, 0, 0, 0, b⟩] 0
    have q1 := mi_one l [⟨5, k, 0, 0, 0, a⟩, ⟨5, k + a.length, 0, 0, 0, b⟩] 1
    rw [q1, q0, Nat.add_zero, mi_app _ _ _ (Nat.le_refl _)]
    show (dn (dn _ ⟨5, k, 0, 0, 0, a⟩).2 ⟨5, k + a.length, 0, 0, 0, b⟩).2 = _
    rw [dn_put _ _ _ (by omega), dn_put _ _ _ (by omega)]
  have m2 : mi (l ++ [⟨5, k, 0, 0, 0, a ++ b⟩]) (l.length + 1) = put (mi l l.length) k (a ++ b) := by
    have q0 : mi (l ++ [⟨5, k, 0, 0, 0, a ++ b⟩]) (l.length + 1) = (dn (mi (l ++ [⟨5, k, 0, 0, 0, a ++ b⟩]) l.length) ⟨5, k, 0, 0, 0, a ++ b⟩).2 := mi_one l [⟨5, k, 0, 0, 0, a ++ b⟩] 0
    rw [q0, mi_app _ _ _ (Nat.le_refl _)]
    show (dn _ ⟨5, k, 0, 0, 0, a ++ b⟩).2 = _
    rw [dn_put _ _ _ (by rw [List.length_append]; omega)]
  refine parts_in l xs l.length k a.length b.length a b (mi l l.length) (put (mi l l.length) k (a ++ b)) e1 (wf_mem hl) ⟨rfl, hz⟩ rfl rfl rfl ?_ m2.symm ?_ hk ao aa ab cap ca cb w ⟨e2, e3⟩ hm ha hb
  · show _ = _
    rw [m1, put_two _ _ _ _ hw hk]
  · exact (put_mw _ _ _ hw (by rw [List.length_append]; omega)).2
end Mm
end Go.Proofs.Ytcpgcdffienobaa
/- lampbearerkeep.MemoryCopies. -/
namespace Go.Proofs.Ytcpgcdffienobaa
namespace Mm
open Go.RowKit Pk
set_option maxHeartbeats 2000000 in
set_option maxRecDepth 100000 in
theorem copies_1 (v : Value) (t f n : Int) (_h0 : Hid (0 ≤ t ∧ 0 ≤ f ∧ 0 ≤ n))  (h1 : (4096 : Int) < t) (w : World) : Calls Try.prog 7 #[v, .int .u64 t, .int .u64 f, .int .u64 n] w fun e w' => e = .returned (.bool true) ∧ Below w.heap.size w w' := by
  have H1 : Hid _ := h1
  clear h1
  have f1 : (4096 : Int) < t := H1.out
  go_enter Try.func7, Try.ntmps7
  go_wp2_with fail
  refine (alive_any w).mono ?_
  rintro e w1 ⟨rfl, b1⟩
  have B1 : Hid _ := b1
  clear b1
  go_wp2_with fail
  go_ret
  exact ⟨rfl, B1.out⟩
set_option maxHeartbeats 2000000 in
set_option maxRecDepth 100000 in
theorem copies_2 (v : Value) (t f n : Int) (_h0 : Hid (0 ≤ t ∧ 0 ≤ f ∧ 0 ≤ n)) (h1 : t ≤ (4096 : Int)) (h2 : (4096 : Int) < f) (w : World) : Calls Try.prog 7 #[v, .int .u64 t, .int .u64 f, .int .u64 n] w fun e w' => e = .returned (.bool true) ∧ Below w.heap.size w w' := by
  have H1 : Hid _ := h1
  have H2 : Hid _ := h2
  clear h1 h2
  have f1 : ¬ (4096 : Int) < t := by have := H1.out; omega
  have f2 : (4096 : Int) < f := H2.out
  go_enter Try.func7, Try.ntmps7
  go_wp2_with fail
  refine (alive_any w).mono ?_
  rintro e w1 ⟨rfl, b1⟩
  have B1 : Hid _ := b1
  clear b1
  go_wp2_with fail
  go_ret
  exact ⟨rfl, B1.out⟩
set_option maxHeartbeats 2000000 in
set_option maxRecDepth 100000 in
theorem copies_3 (v : Value) (t f n : Int) (_h0 : Hid (0 ≤ t ∧ 0 ≤ f ∧ 0 ≤ n)) (h1 : t ≤ (4096 : Int)) (h2 : f ≤ (4096 : Int)) (h3 : (4096 : Int) < n) (w : World) : Calls Try.prog 7 #[v, .int .u64 t, .int .u64 f, .int .u64 n] w fun e w' => e = .returned (.bool true) ∧ Below w.heap.size w w' := by
  have H1 : Hid _ := h1
  have H2 : Hid _ := h2
  have H3 : Hid _ := h3
  clear h1 h2 h3
  have f1 : ¬ (4096 : Int) < t := by have := H1.out; omega
  have f2 : ¬ (4096 : Int) < f := by have := H2.out; omega
  have f3 : (4096 : Int) < n := H3.out
  go_enter Try.func7, Try.ntmps7
  go_wp2_with fail
  refine (alive_any w).mono ?_
  rintro e w1 ⟨rfl, b1⟩
  have B1 : Hid _ := b1
  clear b1
  go_wp2_with fail
  go_ret
  exact ⟨rfl, B1.out⟩
set_option maxHeartbeats 2000000 in
set_option maxRecDepth 100000 in
theorem copies_4 (v : Value) (t f n : Int) (h0 : Hid (0 ≤ t ∧ 0 ≤ f ∧ 0 ≤ n)) (h1 : t ≤ (4096 : Int)) (h2 : f ≤ (4096 : Int)) (h3 : n ≤ (4096 : Int)) (h4 : (4096 : Int) < t + n) (w : World) : Calls Try.prog 7 #[v, .int .u64 t, .int .u64 f, .int .u64 n] w fun e w' => e = .returned (.bool true) ∧ Below w.heap.size w w' := by
  have H1 : Hid _ := h1
  have H2 : Hid _ := h2
  have H3 : Hid _ := h3
  have H4 : Hid _ := h4
  clear h1 h2 h3 h4
  have f1 : ¬ (4096 : Int) < t := by have := H1.out; omega
  have f2 : ¬ (4096 : Int) < f := by have := H2.out; omega
  have f3 : ¬ (4096 : Int) < n := by have := H3.out; omega
  have f4 : (4096 : Int) < t + n := H4.out
  have u4 : IntKind.u64.wrap (t + n) = t + n := by show (t + n) % 18446744073709551616 = t + n; have := H1.out; have := H3.out; have := h0.out; omega
  go_enter Try.func7, Try.ntmps7
  go_wp2_with fail
  refine (alive_any w).mono ?_
  rintro e w1 ⟨rfl, b1⟩
  have B1 : Hid _ := b1
  clear b1
  go_wp2_with fail
  go_ret
  exact ⟨rfl, B1.out⟩
set_option maxHeartbeats 2000000 in
set_option maxRecDepth 100000 in
theorem copies_5 (v : Value) (t f n : Int) (h0 : Hid (0 ≤ t ∧ 0 ≤ f ∧ 0 ≤ n)) (h1 : t ≤ (4096 : Int)) (h2 : f ≤ (4096 : Int)) (h3 : n ≤ (4096 : Int)) (h4 : t + n ≤ (4096 : Int)) (h5 : (4096 : Int) < f + n) (w : World) : Calls Try.prog 7 #[v, .int .u64 t, .int .u64 f, .int .u64 n] w fun e w' => e = .returned (.bool true) ∧ Below w.heap.size w w' := by
  have H1 : Hid _ := h1
  have H2 : Hid _ := h2
  have H3 : Hid _ := h3
  have H4 : Hid _ := h4
  have H5 : Hid _ := h5
  clear h1 h2 h3 h4 h5
  have f1 : ¬ (4096 : Int) < t := by have := H1.out; omega
  have f2 : ¬ (4096 : Int) < f := by have := H2.out; omega
  have f3 : ¬ (4096 : Int) < n := by have := H3.out; omega
  have f4 : ¬ (4096 : Int) < t + n := by have := H4.out; omega
  have f5 : (4096 : Int) < f + n := H5.out
  have u4 : IntKind.u64.wrap (t + n) = t + n := by show (t + n) % 18446744073709551616 = t + n; have := H1.out; have := H3.out; have := h0.out; omega
  have u5 : IntKind.u64.wrap (f + n) = f + n := by show (f + n) % 18446744073709551616 = f + n; have := H2.out; have := H3.out; have := h0.out; omega
  go_enter Try.func7, Try.ntmps7
  go_wp2_with fail
  refine (alive_any w).mono ?_
  rintro e w1 ⟨rfl, b1⟩
  have B1 : Hid _ := b1
  clear b1
  go_wp2_with fail
  go_ret
  exact ⟨rfl, B1.out⟩
set_option maxHeartbeats 2000000 in
set_option maxRecDepth 100000 in
/-- The closure: what was there. -/
theorem was_any (m : By) (M : Nat) (hM : Hid (M = m.length)) (hM2 : Hid (M ≤ 4096)) (ua : Option Addr) (uc g k : Nat) (w : World) (hc : w.cell? ⟨g, 0, none⟩ = some (.slice ua M uc)) (hb : Hid (Tr.Bs (fun _ => True) m (.slice ua M uc) w)) :
    Calls Try.prog 19 #[.int .u64 (k : Int), .pointer (some ⟨g, 0, none⟩)] w fun e w' => e = .returned (.int .u8 (Sp.bz m k)) ∧ Below w.heap.size w w' := by
  have u1 : IntKind.u64.wrap (M : Int) = M := by show (M : Int) % 18446744073709551616 = M; have := hM2.out; omega
  by_cases h : k < M
  · obtain ⟨ao, cap, e, _, hr⟩ := hb.out
    injection e with e1 e2 e3
    subst e1
    obtain ⟨gd, off, rfl, _, _, hcell⟩ := hr (by rw [← hM.out]; omega)
    have ck := hcell k (by rw [← hM.out]; exact h)
    have d0 : (0 : Int) ≤ (k : Int) := by omega
    have d1 : (k : Int) < (M : Int) := by omega
    generalize Sp.bz m k = R at *
    clear hr hcell hb e2 e3
    go_enter Try.func19, Try.ntmps19
    go_wp2_with fail
    go_ret
    exact ⟨rfl, Below.refl _ _⟩
  · have e : Sp.bz m k = 0 := by
      unfold Sp.bz
      have := hM.out
      simp [List.getElem?_eq_none (show m.length ≤ k by omega)]
    rw [e]
    have d1 : ¬ (k : Int) < (M : Int) := by omega
    clear hb
    go_enter Try.func19, Try.ntmps19
    go_wp2_with fail
    go_ret
    exact ⟨rfl, Below.refl _ _⟩
theorem dgz2 : dg 0 0 = 0 ∧ dg 0 1 = 0 ∧ dg 0 2 = 0 ∧ dg 0 3 = 0 := by decide
theorem lit4 (t f n : Nat) : #[.int .i64 4, .int .u64 (dg t 0), .int .u64 (dg t 1), .int .u64 (dg t 2), .int .u64 (dg t 3), .int .u64 (dg f 0), .int .u64 (dg f 1), .int .u64 (dg f 2), .int .u64 (dg f 3), .int .u64 (dg n 0), .int .u64 (dg n 1), .int .u64 (dg n 2), .int .u64 (dg n 3), .int .u64 0, .int .u64 0, .int .u64 0, .int .u64 0, .slice none 0 0] = (OC [(⟨4, t, f, n, 0, []⟩, .slice none 0 0)]).toArray := by
  show _ = (ocl _ _ ++ []).toArray
  unfold ocl
  rw [dgz2.1, dgz2.2.1, dgz2.2.2.1, dgz2.2.2.2]
  rfl
set_option maxHeartbeats 4000000 in
set_option maxRecDepth 100000 in
theorem copies_in (l : List Mo) (xs : List OV) (N t f n M0 M1 : Nat) (m0 m1 : By) (hxs : Hid (xs.map (·.1) = l)) (hl : Hid (∀ x, x ∈ l → Wf x)) (hn : Hid (N = l.length ∧ N + 1 ≤ 1048576))
    (hm0 : Hid (m0 = mi l N ∧ M0 = m0.length ∧ M0 ≤ 4096)) (hm1 : Hid (m1 = mi (l ++ [⟨4, t, f, n, 0, []⟩]) (N + 1) ∧ M1 = m1.length ∧ M1 ≤ 4096)) (hle : Hid (M0 ≤ M1 ∧ (n ≠ 0 → t + n ≤ M1 ∧ f + n ≤ M1))) (ht : Hid (t + n ≤ 4096 ∧ f + n ≤ 4096))
    (hat : Hid (∀ i, Sp.bz m1 i = if t ≤ i ∧ i < t + n then Sp.bz m0 (f + i - t) else Sp.bz m0 i))
    (ao : Option Addr) (cap : Nat) (w : World) (hv : Hid (VO xs (.slice ao N cap) w ∧ ∀ x, x ∈ xs → Tr.Bs (· < w.heap.size) x.1.d x.2 w)) (hm : Hid (Mr (· < w.heap.size) l (.slice ao N cap) w)) :
    Calls Try.prog 7 #[.slice ao N cap, .int .u64 (t : Int), .int .u64 (f : Int), .int .u64 (n : Int)] w fun e w' => e = .returned (.bool true) ∧ Below w.heap.size w w' := by
  have f1 : ¬ (4096 : Int) < (t : Int) := by have := ht.out; omega
  have f2 : ¬ (4096 : Int) < (f : Int) := by have := ht.out; omega
  have f3 : ¬ (4096 : Int) < (n : Int) := by have := ht.out; omega
  have f4 : ¬ (4096 : Int) < (t : Int) + n := by have := ht.out; omega
  have f5 : ¬ (4096 : Int) < (f : Int) + n := by have := ht.out; omega
  have u4 : IntKind.u64.wrap ((t : Int) + n) = t + n := by show ((t : Int) + n) % 18446744073709551616 = t + n; have := ht.out; omega
  have u5 : IntKind.u64.wrap ((f : Int) + n) = f + n := by show ((f : Int) + n) % 18446744073709551616 = f + n; have := ht.out; omega
  have u6 : IntKind.u64.wrap (M1 : Int) = M1 := by show (M1 : Int) % 18446744073709551616 = M1; have := hm1.out; omega
  have HX : Hid (xs.length = N) := by
    show _ = _
    rw [hn.out.1, ← hxs.out, List.length_map]
  have KP0 : Hid (∀ W : World, Below w.heap.size w W → Calls Try.prog 9 #[.slice ao N cap] W fun e w' => ∃ (ga : Nat) (ua : Option Addr) (uc : Nat), e = .returned (.tuple #[.slice (some ⟨ga, 0, none⟩) N N, .slice ua M0 uc]) ∧ Tr.Bs (fun _ => True) m0 (.slice ua M0 uc) w' ∧ Below W.heap.size W w') := fun W hb => by
    have := play_pb l (wf_in l hl.out) (by have := hn.out; omega) _ W (Mr_below hm.out hb) m0 (by rw [← hn.out.1]; exact hm0.out.1) N hn.out.1
    unfold PB at this
    rw [hm0.out.2.1]
    exact this
  have KC : Hid (∀ W : World, Below w.heap.size w W → Calls Try.prog 15 #[.slice ao N cap] W fun e w' => ∃ z, e = .returned z ∧ Oo W.heap.size xs z w' ∧ Below W.heap.size W w') := fun W hb => clone_op xs _ W (VO_below hv.out.1 hb) (fun x hx => Bs_isSl (hv.out.2 x hx)) (by have := hn.out; have := HX.out; omega)
  have KP1 : Hid (∀ (W : World) (Bs : Nat) (v : Value), Below w.heap.size w W → Oo Bs (xs ++ [(⟨4, t, f, n, 0, []⟩, .slice none 0 0)]) v W → Calls Try.prog 9 #[v] W fun e w' => ∃ (ga : Nat) (ua : Option Addr) (uc : Nat), e = .returned (.tuple #[.slice (some ⟨ga, 0, none⟩) (N + 1) (N + 1), .slice ua M1 uc]) ∧ Tr.Bs (fun _ => True) m1 (.slice ua M1 uc) w' ∧ Below W.heap.size W w') := fun W Bs v hb1 ho => by
    have hM := Oo_in ho (fun x hx => by
      rcases List.mem_append.1 hx with h | h
      · exact Bs_in (hv.out.2 x h) hb1
      · simp only [List.mem_cons, List.not_mem_nil, or_false] at h
        subst h
        exact Tr.Bs_nil _ _)
    rw [List.map_append, hxs.out] at hM
    have hM : Mr (· < W.heap.size) (l ++ [(⟨4, t, f, n, 0, []⟩ : Mo)]) v W := hM
    have hlen : (l ++ [(⟨4, t, f, n, 0, []⟩ : Mo)]).length = N + 1 := by rw [List.length_append, hn.out.1]; rfl
    have := play_pb _ (wf_in _ (fun x hx => by
      rcases List.mem_append.1 hx with h | h
      · exact hl.out x h
      · have := ht.out
        simp only [List.mem_cons, List.not_mem_nil, or_false] at h
        subst h
        exact ⟨by show t < 2 ^ 256; omega, by show f < 2 ^ 256; omega, by show n < 2 ^ 256; omega, by show 0 ≤ _; omega⟩)) (by rw [hlen]; exact hn.out.2) v W hM m1 (by rw [hlen]; exact hm1.out.1) (N + 1) hlen.symm
    unfold PB at this
    rw [hm1.out.2.1]
    exact this
  have KI : ∀ k : Nat, k ≤ 4096 → Hid (∀ W : World, Calls Try.prog 18 #[.int .u64 (k : Int)] W fun e w' => e = .returned (.agg #[.int .u64 (dg k 0), .int .u64 (dg k 1), .int .u64 (dg k 2), .int .u64 (dg k 3)]) ∧ Below W.heap.size W w') := fun k hk W => int_any k (by omega) W
  have Kt := KI t (by have := ht.out; omega)
  have Kf := KI f (by have := ht.out; omega)
  have Kn := KI n (by have := ht.out; omega)
  clear KI
  go_enter Try.func7, Try.ntmps7
  go_wp2_with fail
  refine (alive_any w).mono ?_
  rintro e w1 ⟨rfl, b1⟩
  have B1 : Hid _ := b1
  clear b1
  go_wp2_with fail
  refine (KP0.out w1 B1.out).mono ?_
  rintro e w2 ⟨ga0, ua0, uc0, rfl, q2, b2⟩
  have B2 : Hid (Below w.heap.size w w2) := B1.out.trans (b2.mono B1.out.size)
  have Q2 : Hid (Tr.Bs (fun _ => True) m0 (.slice ua0 M0 uc0) w2) := q2
  clear b2 B1 KP0 q2
  go_upto_region 6 with fail
  have b3 : Below w2.heap.size w2 (w2.alloc (.cells #[.slice ua0 M0 uc0] 24)) := (Below.refl _ _).alloc (Nat.le_refl _) _
  have B3 : Hid (Below w.heap.size w (w2.alloc (.cells #[.slice ua0 M0 uc0] 24))) := B2.out.trans (b3.mono B2.out.size)
  have Q3 : Hid (Tr.Bs (fun k => k < w2.heap.size) m0 (.slice ua0 M0 uc0) (w2.alloc (.cells #[.slice ua0 M0 uc0] 24))) := Bs_below (Tr.Bs_mono Q2.out (fun _ _ h => h)) b3
  have c3 : (w2.alloc (.cells #[.slice ua0 M0 uc0] 24)).cell? ⟨w2.heap.size, 0, none⟩ = some (.slice ua0 M0 uc0) := by simp
  have z3 : (w2.alloc (.cells #[.slice ua0 M0 uc0] 24)).heap.size = w2.heap.size + 1 := by simp
  have Z3 : Hid (w2.heap.size < (w2.alloc (.cells #[.slice ua0 M0 uc0] 24)).heap.size ∧ w.heap.size ≤ w2.heap.size) := ⟨by rw [z3]; omega, B2.out.size⟩
  have C3 : Hid _ := c3
  clear b3 B2 Q2 z3 c3
  generalize w2.alloc (.cells #[.slice ua0 M0 uc0] 24) = w3 at *
  go_wp2_with fail
  refine (KC.out w3 B3.out).mono ?_
  rintro e w4 ⟨z, rfl, o4, b4⟩
  have R4 : Hid (Below w3.heap.size w3 w4) := b4
  have O4 : Hid (Oo w3.heap.size xs z w4) := o4
  clear b4 o4 KC
  go_wp2_with fail
  refine (Kt.out w4).mono ?_
  rintro e w5 ⟨rfl, b5⟩
  have R5 : Hid (Below w3.heap.size w3 w5) := R4.out.trans (b5.mono R4.out.size)
  have O5 : Hid (Oo w3.heap.size xs z w5) := Oo_below O4.out b5
  clear b5 R4 O4 Kt
  go_wp2_with fail
  refine (Kf.out w5).mono ?_
  rintro e w6 ⟨rfl, b6⟩
  have R6 : Hid (Below w3.heap.size w3 w6) := R5.out.trans (b6.mono R5.out.size)
  have O6 : Hid (Oo w3.heap.size xs z w6) := Oo_below O5.out b6
  clear b6 R5 O5 Kf
  go_wp2_with fail
  refine (Kn.out w6).mono ?_
  rintro e w7 ⟨rfl, b7⟩
  have R7 : Hid (Below w3.heap.size w3 w7) := R6.out.trans (b7.mono R6.out.size)
  have O7 : Hid (Oo w3.heap.size xs z w7) := Oo_below O6.out b7
  clear b7 R6 O6 Kn
  have b8 : Below w7.heap.size w7 (w7.alloc (.cells #[.int .i64 4, .int .u64 (dg t 0), .int .u64 (dg t 1), .int .u64 (dg t 2), .int .u64 (dg t 3), .int .u64 (dg f 0), .int .u64 (dg f 1), .int .u64 (dg f 2), .int .u64 (dg f 3), .int .u64 (dg n 0), .int .u64 (dg n 1), .int .u64 (dg n 2), .int .u64 (dg n 3), .int .u64 0, .int .u64 0, .int .u64 0, .int .u64 0, .slice none 0 0] 38 (0, 0))) := (Below.refl _ _).alloc (Nat.le_refl _) _
  have R8 : Below w3.heap.size w3 (w7.alloc (.cells #[.int .i64 4, .int .u64 (dg t 0), .int .u64 (dg t 1), .int .u64 (dg t 2), .int .u64 (dg t 3), .int .u64 (dg f 0), .int .u64 (dg f 1), .int .u64 (dg f 2), .int .u64 (dg f 3), .int .u64 (dg n 0), .int .u64 (dg n 1), .int .u64 (dg n 2), .int .u64 (dg n 3), .int .u64 0, .int .u64 0, .int .u64 0, .int .u64 0, .slice none 0 0] 38 (0, 0))) := R7.out.trans (b8.mono R7.out.size)
  have O8 := Oo_below O7.out b8
  obtain ⟨v9, w9, hap, o9, g9⟩ := app_op 22 O8 (lit_VO [(⟨4, t, f, n, 0, []⟩, .slice none 0 0)] _ (lit4 t f n) 38 (0, 0) w7 1 rfl) (fun x hx => by
    simp only [List.mem_cons, List.not_mem_nil, or_false] at hx
    subst hx
    exact ⟨_, _, _, rfl⟩) R8.size (by have := hn.out; have := HX.out; show xs.length + 1 ≤ _; omega)
  have R9 : Hid (Below w3.heap.size w3 w9) := R8.trans ((Below.refl _ _).grown g9 R8.size (fun k hk => (Sp.own_lo O8 k hk).1))
  have O9 : Hid (Oo w3.heap.size (xs ++ [(⟨4, t, f, n, 0, []⟩, .slice none 0 0)]) v9 w9) := o9
  clear b8 R8 O8 o9 g9 R7 O7
  go_wp2_with (at_builtin; refine Tr.wpList_apw rfl rfl rfl rfl hap ?_)
  refine (KP1.out w9 w3.heap.size v9 (B3.out.trans (R9.out.mono B3.out.size)) O9.out).mono ?_
  rintro e w10 ⟨ga1, ua1, uc1, rfl, q10, b10⟩
  have R10 : Hid (Below w3.heap.size w3 w10) := R9.out.trans (b10.mono R9.out.size)
  have Q10 : Hid (Tr.Bs (fun _ => True) m1 (.slice ua1 M1 uc1) w10) := q10
  clear R9 O9 q10 b10 hap KP1
  have c10 : w10.cell? ⟨w2.heap.size, 0, none⟩ = some (.slice ua0 M0 uc0) := (R10.out.cell (p := ⟨w2.heap.size, 0, none⟩) Z3.out.1).trans C3.out
  have S10 : Hid (Tr.Bs (fun _ => True) m0 (.slice ua0 M0 uc0) w10) := Bs_below (Tr.Bs_mono Q3.out (fun _ _ _ => trivial)) R10.out
  have CC : Hid _ := c10
  have d1 : ¬ M1 < M0 := by have := hle.out; omega
  have d1b : ¬ (M1 : Int) < (M0 : Int) := by have := hle.out; omega
  have ZZ : Hid (w2.heap.size < w10.heap.size) := Nat.lt_of_lt_of_le Z3.out.1 R10.out.size
  have BB : Hid (Below w.heap.size w w10) := B3.out.trans (R10.out.mono B3.out.size)
  clear Z3 C3 Q3 B3
  have KW : Hid (∀ (k : Nat) (W : World), Below w10.heap.size w10 W → Calls Try.prog 19 #[.int .u64 (k : Int), .pointer (some ⟨w2.heap.size, 0, none⟩)] W fun e w' => e = .returned (.int .u8 (Sp.bz m0 k)) ∧ Below W.heap.size W w') := fun k W hb => was_any m0 M0 hm0.out.2.1 hm0.out.2.2 ua0 uc0 w2.heap.size k W ((hb.cell (p := ⟨w2.heap.size, 0, none⟩) ZZ.out).trans CC.out) (Bs_below S10.out hb)
  have mid : ∀ (Q : Prop), (n = 0 → Q) → (n ≠ 0 → t + n ≤ M1 → f + n ≤ M1 → Q) → Q := fun Q h1 h2 => by
    by_cases h : n = 0
    · exact h1 h
    · exact h2 h (hle.out.2 h).1 (hle.out.2 h).2
  refine mid _ (fun h0 => ?_) (fun h0 h1 h2 => ?_)
  rotate_left 1
  · have k1 : (0 : Int) < (n : Int) := by omega
    have k1b : 0 < n := by omega
    have k2 : ¬ (M1 : Int) < (t : Int) + n := by omega
    have k3 : ¬ (M1 : Int) < (f : Int) + n := by omega
    clear h0 h1 h2 mid
    go_upto_region 11 with fail
    go_loopw [91] (fun s wr => ∃ i : Nat, i ≤ M1 ∧ s = .int .u64 (i : Int) ∧ Below w10.heap.size w10 wr) (fun s _ => ((M1 : Int) - intOf s).toNat)
    case atStart => exact ⟨0, Nat.zero_le _, rfl, Below.refl _ _⟩
    case round =>
      obtain ⟨i, hi, rfl, hb⟩ := hrel
      by_cases hlt : i < M1
      · have d2 : (i : Int) < (M1 : Int) := by omega
        have d3 : (0 : Int) ≤ (i : Int) := by omega
        have HB : Hid _ := hb
        have b1 : Hid (Sp.bz m1 i = if t ≤ i ∧ i < t + n then Sp.bz m0 (f + i - t) else Sp.bz m0 i) := hat.out i
        obtain ⟨ao9, cap9, e9, _, hr9⟩ := Q10.out
        injection e9 with e91 e92 e93
        subst e91
        obtain ⟨gd, off, rfl, _, hgd, hcell⟩ := hr9 (by rw [← hm1.out.2.1]; omega)
        have ck0 := (hb.cell (p := ⟨gd, off + i, none⟩) hgd).trans (hcell i (by rw [← hm1.out.2.1]; exact hlt))
        have HG : Hid (gd < w10.heap.size ∧ w10.cell? ⟨gd, off + i, none⟩ = some (.int .u8 (Sp.bz m1 i))) := ⟨hgd, hcell i (by rw [← hm1.out.2.1]; exact hlt)⟩
        have ew : Hid (IntKind.u64.wrap ((i : Int) + 1) = ((i + 1 : Nat) : Int)) := by show ((i : Int) + 1) % 18446744073709551616 = _; have := hm1.out; omega
        clear hr9 hcell e92 e93 ck0 hb hgd
        go_wp2_with fail
        refine (KW.out i wr HB.out).mono ?_
        rintro e w11 ⟨rfl, b11⟩
        have H11 : Hid (Below w10.heap.size w10 w11) := HB.out.trans (b11.mono HB.out.size)
        clear b11 HB
        by_cases c1 : t ≤ i
        · have g1 : (t : Int) ≤ (i : Int) := by omega
          obtain ⟨d, hd⟩ : ∃ d : Nat, Hid (d = i - t) := ⟨_, rfl⟩
          have g2 : IntKind.u64.wrap ((i : Int) - t) = (d : Int) := by show ((i : Int) - t) % 18446744073709551616 = _; have := hm1.out; have := hd.out; omega
          by_cases c2 : i < t + n
          · have g3 : (d : Int) < (n : Int) := by have := hd.out; omega
            obtain ⟨p, hp⟩ : ∃ p : Nat, Hid (p = f + i) := ⟨_, rfl⟩
            obtain ⟨q, hq⟩ : ∃ q : Nat, Hid (q = f + i - t) := ⟨_, rfl⟩
            have g4 : IntKind.u64.wrap ((f : Int) + i) = (p : Int) := by show ((f : Int) + i) % 18446744073709551616 = _; have := hm1.out; have := ht.out; have := hp.out; omega
            have g5 : IntKind.u64.wrap ((p : Int) - t) = (q : Int) := by show ((p : Int) - t) % 18446744073709551616 = _; have := hm1.out; have := ht.out; have := hp.out; have := hq.out; omega
            have e1 : Sp.bz m1 i = Sp.bz m0 q := by rw [b1.out, if_pos ⟨c1, c2⟩, hq.out]
            clear c2 c1
            clear b1
            rw [e1] at HG
            clear e1
            go_wp2_with fail
            refine (KW.out q w11 H11.out).mono ?_
            rintro e w12 ⟨rfl, b12⟩
            have H12 : Hid (Below w10.heap.size w10 w12) := H11.out.trans (b12.mono H11.out.size)
            clear b12 H11
            have ck := (H12.out.cell (p := ⟨gd, off + i, none⟩) HG.out.1).trans HG.out.2
            clear HG
            generalize Sp.bz m0 q = R at *
            go_wp2_with fail
            go_roundw
            case rel => exact ⟨i + 1, hlt, by first | rw [ew.out] | rfl, H12.out⟩
            case measure => exact stm i M1 hlt _ (by first | (rw [ew.out]; rfl) | rfl)
          · have g3 : ¬ (d : Int) < (n : Int) := by have := hd.out; omega
            have e1 : Sp.bz m1 i = Sp.bz m0 i := by rw [b1.out, if_neg (fun h => c2 h.2)]
            clear c2 c1
            clear b1
            rw [e1] at HG
            clear e1
            have ck := (H11.out.cell (p := ⟨gd, off + i, none⟩) HG.out.1).trans HG.out.2
            clear HG
            generalize Sp.bz m0 i = R at *
            go_wp2_with fail
            go_roundw
            case rel => exact ⟨i + 1, hlt, by first | rw [ew.out] | rfl, H11.out⟩
            case measure => exact stm i M1 hlt _ (by first | (rw [ew.out]; rfl) | rfl)
        · have g1 : ¬ (t : Int) ≤ (i : Int) := by omega
          have e1 : Sp.bz m1 i = Sp.bz m0 i := by rw [b1.out, if_neg (fun h => c1 h.1)]
          clear c1
          clear b1
          rw [e1] at HG
          clear e1
          have ck := (H11.out.cell (p := ⟨gd, off + i, none⟩) HG.out.1).trans HG.out.2
          clear HG
          generalize Sp.bz m0 i = R at *
          go_wp2_with fail
          go_roundw
          case rel => exact ⟨i + 1, hlt, by first | rw [ew.out] | rfl, H11.out⟩
          case measure => exact stm i M1 hlt _ (by first | (rw [ew.out]; rfl) | rfl)
      · have ek : i = M1 := by omega
        subst ek
        have d0 : ¬ (i : Int) < (i : Int) := by omega
        have HB : Hid (Below w.heap.size w wr) := BB.out.trans (hb.mono BB.out.size)
        clear hb
        go_wp2_with fail
        go_ret
        exact ⟨rfl, HB.out⟩
  · have k1 : ¬ (0 : Int) < (n : Int) := by omega
    have k1b : ¬ 0 < n := by omega
    have H0 : Hid _ := h0
    clear h0 mid
    go_upto_region 11 with fail
    go_loopw [91] (fun s wr => ∃ i : Nat, i ≤ M1 ∧ s = .int .u64 (i : Int) ∧ Below w10.heap.size w10 wr) (fun s _ => ((M1 : Int) - intOf s).toNat)
    case atStart => exact ⟨0, Nat.zero_le _, rfl, Below.refl _ _⟩
    case round =>
      obtain ⟨i, hi, rfl, hb⟩ := hrel
      by_cases hlt : i < M1
      · have d2 : (i : Int) < (M1 : Int) := by omega
        have d3 : (0 : Int) ≤ (i : Int) := by omega
        have HB : Hid _ := hb
        have b1 : Hid (Sp.bz m1 i = if t ≤ i ∧ i < t + n then Sp.bz m0 (f + i - t) else Sp.bz m0 i) := hat.out i
        obtain ⟨ao9, cap9, e9, _, hr9⟩ := Q10.out
        injection e9 with e91 e92 e93
        subst e91
        obtain ⟨gd, off, rfl, _, hgd, hcell⟩ := hr9 (by rw [← hm1.out.2.1]; omega)
        have ck0 := (hb.cell (p := ⟨gd, off + i, none⟩) hgd).trans (hcell i (by rw [← hm1.out.2.1]; exact hlt))
        have HG : Hid (gd < w10.heap.size ∧ w10.cell? ⟨gd, off + i, none⟩ = some (.int .u8 (Sp.bz m1 i))) := ⟨hgd, hcell i (by rw [← hm1.out.2.1]; exact hlt)⟩
        have ew : Hid (IntKind.u64.wrap ((i : Int) + 1) = ((i + 1 : Nat) : Int)) := by show ((i : Int) + 1) % 18446744073709551616 = _; have := hm1.out; omega
        clear hr9 hcell e92 e93 ck0 hb hgd
        go_wp2_with fail
        refine (KW.out i wr HB.out).mono ?_
        rintro e w11 ⟨rfl, b11⟩
        have H11 : Hid (Below w10.heap.size w10 w11) := HB.out.trans (b11.mono HB.out.size)
        clear b11 HB
        by_cases c1 : t ≤ i
        · have g1 : (t : Int) ≤ (i : Int) := by omega
          obtain ⟨d, hd⟩ : ∃ d : Nat, Hid (d = i - t) := ⟨_, rfl⟩
          have g2 : IntKind.u64.wrap ((i : Int) - t) = (d : Int) := by show ((i : Int) - t) % 18446744073709551616 = _; have := hm1.out; have := hd.out; omega
          by_cases c2 : i < t + n
          · have g3 : (d : Int) < (n : Int) := by have := hd.out; omega
            obtain ⟨p, hp⟩ : ∃ p : Nat, Hid (p = f + i) := ⟨_, rfl⟩
            obtain ⟨q, hq⟩ : ∃ q : Nat, Hid (q = f + i - t) := ⟨_, rfl⟩
            have g4 : IntKind.u64.wrap ((f : Int) + i) = (p : Int) := by show ((f : Int) + i) % 18446744073709551616 = _; have := hm1.out; have := ht.out; have := hp.out; omega
            have g5 : IntKind.u64.wrap ((p : Int) - t) = (q : Int) := by show ((p : Int) - t) % 18446744073709551616 = _; have := hm1.out; have := ht.out; have := hp.out; have := hq.out; omega
            have e1 : Sp.bz m1 i = Sp.bz m0 q := by rw [b1.out, if_pos ⟨c1, c2⟩, hq.out]
            clear c2 c1
            clear b1
            rw [e1] at HG
            clear e1
            go_wp2_with fail
            refine (KW.out q w11 H11.out).mono ?_
            rintro e w12 ⟨rfl, b12⟩
            have H12 : Hid (Below w10.heap.size w10 w12) := H11.out.trans (b12.mono H11.out.size)
            clear b12 H11
            have ck := (H12.out.cell (p := ⟨gd, off + i, none⟩) HG.out.1).trans HG.out.2
            clear HG
            generalize Sp.bz m0 q = R at *
            go_wp2_with fail
            go_roundw
            case rel => exact ⟨i + 1, hlt, by first | rw [ew.out] | rfl, H12.out⟩
            case measure => exact stm i M1 hlt _ (by first | (rw [ew.out]; rfl) | rfl)
          · have g3 : ¬ (d : Int) < (n : Int) := by have := hd.out; omega
            have e1 : Sp.bz m1 i = Sp.bz m0 i := by rw [b1.out, if_neg (fun h => c2 h.2)]
            clear c2 c1
            clear b1
            rw [e1] at HG
            clear e1
            have ck := (H11.out.cell (p := ⟨gd, off + i, none⟩) HG.out.1).trans HG.out.2
            clear HG
            generalize Sp.bz m0 i = R at *
            go_wp2_with fail
            go_roundw
            case rel => exact ⟨i + 1, hlt, by first | rw [ew.out] | rfl, H11.out⟩
            case measure => exact stm i M1 hlt _ (by first | (rw [ew.out]; rfl) | rfl)
        · have g1 : ¬ (t : Int) ≤ (i : Int) := by omega
          have e1 : Sp.bz m1 i = Sp.bz m0 i := by rw [b1.out, if_neg (fun h => c1 h.1)]
          clear c1
          clear b1
          rw [e1] at HG
          clear e1
          have ck := (H11.out.cell (p := ⟨gd, off + i, none⟩) HG.out.1).trans HG.out.2
          clear HG
          generalize Sp.bz m0 i = R at *
          go_wp2_with fail
          go_roundw
          case rel => exact ⟨i + 1, hlt, by first | rw [ew.out] | rfl, H11.out⟩
          case measure => exact stm i M1 hlt _ (by first | (rw [ew.out]; rfl) | rfl)
      · have ek : i = M1 := by omega
        subst ek
        have d0 : ¬ (i : Int) < (i : Int) := by omega
        have HB : Hid (Below w.heap.size w wr) := BB.out.trans (hb.mono BB.out.size)
        clear hb
        go_wp2_with fail
        go_ret
        exact ⟨rfl, HB.out⟩

theorem law_copies (l : List Mo) (hl : ∀ j, j < l.length → Wf (l.getD j no)) (hz : l.length + 1 ≤ 1048576) (v : Value) (t f n : Int) (ht : 0 ≤ t) (hf : 0 ≤ f) (hn : 0 ≤ n) (w : World) (hm : Mr (· < w.heap.size) l v w) :
    Calls Try.prog 7 #[v, .int .u64 t, .int .u64 f, .int .u64 n] w fun e w' => e = .returned (.bool true) ∧ Below w.heap.size w w' := by
  have h0 : Hid (0 ≤ t ∧ 0 ≤ f ∧ 0 ≤ n) := ⟨ht, hf, hn⟩
  by_cases h1 : (4096 : Int) < t
  · exact copies_1 v t f n h0 h1 w
  by_cases h2 : (4096 : Int) < f
  · exact copies_2 v t f n h0 (by omega) h2 w
  by_cases h3 : (4096 : Int) < n
  · exact copies_3 v t f n h0 (by omega) (by omega) h3 w
  by_cases h4 : (4096 : Int) < t + n
  · exact copies_4 v t f n h0 (by omega) (by omega) (by omega) h4 w
  by_cases h5 : (4096 : Int) < f + n
  · exact copies_5 v t f n h0 (by omega) (by omega) (by omega) (by omega) h5 w
  obtain ⟨t, rfl⟩ : ∃ k : Nat, t = k := ⟨t.toNat, by omega⟩
  obtain ⟨f, rfl⟩ : ∃ k : Nat, f = k := ⟨f.toNat, by omega⟩
  obtain ⟨n, rfl⟩ : ∃ k : Nat, n = k := ⟨n.toNat, by omega⟩
  obtain ⟨xs, e1, e2, e3⟩ := Mr_VO hm
  have hm2 := hm
  obtain ⟨ds, ao, cap, _, rfl, _, _⟩ := hm2
  obtain ⟨_, hw⟩ := pd_mi l l.length
  have m1 : mi (l ++ [⟨4, t, f, n, 0, []⟩]) (l.length + 1) = cpy (mi l l.length) t f n := by
    have q0 : mi (l ++ [⟨4, t, f, n, 0, []⟩]) (l.length + 1) = (dn (mi (l ++ [⟨4, t, f, n, 0, []⟩]) l.length) ⟨4, t, f, n, 0, []⟩).2 := mi_one l [⟨4, t, f, n, 0, []⟩] 0
    rw [q0, mi_app _ _ _ (Nat.le_refl _), dn_cpy _ _ _ _ (by omega) (by omega)]
  have hw1 : Mw (cpy (mi l l.length) t f n) := by
    have := (dn_paid (mi l l.length) ⟨4, t, f, n, 0, []⟩ hw).2.1
    rwa [dn_cpy _ _ _ _ (by omega) (by omega)] at this
  refine copies_in l xs l.length t f n _ _ (mi l l.length) (cpy (mi l l.length) t f n) e1 (wf_mem hl) ⟨rfl, hz⟩ ⟨rfl, rfl, hw.2⟩ ⟨m1.symm, rfl, hw1.2⟩ ?_ ⟨by omega, by omega⟩ ?_ ao cap w ⟨e2, e3⟩ hm
  · exact cpy_len _ _ _ _ hw
  · intro i
    unfold Sp.bz
    rw [cpy_at _ _ _ _ hw]
    split <;> rfl
end Mm
end Go.Proofs.Ytcpgcdffienobaa
