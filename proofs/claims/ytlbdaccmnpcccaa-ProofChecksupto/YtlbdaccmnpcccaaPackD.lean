import Derived.Test.YtlbdaccmnpcccaaPackC
import Derived.Deep.MidRow
import Derived.Test.YtlbdaccmnpcccaaPackA
import Derived.Defers
import Derived.Recover
import Derived.Laws.Pointers
import Derived.Test.YtlbdaccmnpcccaaPackB
namespace Go.Proofs.Ytlbdaccmnpcccaa
namespace Pk
open Go.RowKit
def ItemC (N : Nat) : Prop := ∀ (b : List UInt8) (g : Nat) (w : World), b.length ≤ N → Rd g b w → Calls Try.prog 55 #[.pointer (some ⟨g, 0, none⟩)] w fun e w' => w.grownBy w' (some g) ∧ ((ritem b = none ∧ e = .panicked [{ v := FT, recovered := false }]) ∨ ∃ t r v, ritem b = some (t, r) ∧ e = .returned (v3 v) ∧ Iv (w.heap.size ≤ ·) w' t v ∧ Rd g r w')
theorem rd_new {g : Nat} {b : List UInt8} {v : Value} {w : World} (h : Sx g b v w) (ty : TypeId) : Rd w.heap.size b (w.alloc (.cells #[v] ty)) := by
 have hn := heap_alloc_new w (.cells #[v] ty); have hb : Below w.heap.size w (w.alloc (.cells #[v] ty)) := (Below.refl _ _).alloc (Nat.le_refl _) _; refine ⟨by simp, fun o => by simp only [World.frozen?, hn]; simp, v, by simp only [World.cell?, hn]; simp, ?_⟩
 obtain ⟨ao, cap, h1, h2, h3, h4⟩ := h; refine ⟨ao, cap, h1, h2, h3, fun h0 => ?_⟩
 obtain ⟨k, off, e, hne, hlt, hc⟩ := h4 h0; exact ⟨k, off, e, hlt, Nat.lt_of_lt_of_le hlt hb.size, fun j hj => (hb.cell (p := ⟨k, off + j, none⟩) hlt).trans (hc j hj)⟩
theorem Iv_form {S : Nat → Prop} {w : World} {t : It} {v : V3} (h : Iv S w t v) : ∃ l a1 n1 c1 a2 n2 c2, v = (.bool l, .slice a1 n1 c1, .slice a2 n2 c2) := by
 cases h with
 | mk l t ks tv kv vs ht hl hk hi =>
  obtain ⟨a1, c1, rfl, _⟩ := ht; obtain ⟨a2, c2, rfl, _⟩ := hk; exact ⟨l, a1, _, c1, a2, _, c2, rfl⟩
theorem Rd_up {g : Nat} {b : List UInt8} {w w' : World} {r : Option Nat} (h : Rd g b w) (hb : w.grownBy w' r) (h1 : ∀ j, j ≤ g → some j ≠ r) : Rd g b w' := by
 obtain ⟨v, c1, ao, cap, e1, e2, e3, e4⟩ := h.s; have hbk : w'.heap[g]? = w.heap[g]? := hb.block g h.hi (h1 g (Nat.le_refl _)); refine ⟨Nat.lt_of_lt_of_le h.hi hb.size, fun o => (World.frozen?_of_block (a := ⟨g, o, none⟩) hbk).trans (h.f o), v, (World.cell?_of_block (a := ⟨g, 0, none⟩) hbk).trans c1, ao, cap, e1, e2, e3, fun h0 => ?_⟩
 obtain ⟨k, off, e, hne, hlt, hc⟩ := e4 h0; have hbk2 : w'.heap[k]? = w.heap[k]? := hb.block k hlt (h1 k (Nat.le_of_lt hne)); exact ⟨k, off, e, hne, Nat.lt_of_lt_of_le hlt hb.size, fun j hj => (World.cell?_of_block (a := ⟨k, off + j, none⟩) hbk2).trans (hc j hj)⟩
theorem infoI : (Try.prog.info? 59).map (fun i => (i.zero, i.size, i.bytes)) = some (some (.agg #[.bool false, .slice none 0 0, .slice none 0 0]), 3, 56) := by kernel_rfl
structure LI (gi : Nat) (w3 : World) (C : List UInt8) (v6 : Value) (ks : List It) (vs : List V3) (r : List UInt8) (wr : World) : Prop where
 e : rkids C = (rkids r).map fun l => ks ++ l
 l : ks.length + r.length ≤ C.length
 rd : Rd gi r wr
 b : Below gi w3 wr
 o : wr.ownsRow (gi + 1) 59 3 v6 vs.length (c3 vs)
 n : vs.length = ks.length
 i : ∀ j, j < ks.length → Iv (fun k => gi + 1 ≤ k ∧ v6.ownBlock ≠ some k) wr (ks.getD j It.no) (vs.getD j n3)
set_option maxRecDepth 100000 in
theorem LI_step {gi : Nat} {w3 wr w4 : World} {C r r' : List UInt8} {v6 : Value} {ks : List It} {vs : List V3} {t : It} {l : Bool} {a1 a2 : Option Addr} {n1 c1 n2 c2 : Nat} (ty : TypeId)
  (h : LI gi w3 C v6 ks vs r wr) (hr0 : 0 < r.length) (hg : wr.grownBy w4 (some gi)) (hi : ritem r = some (t, r')) (iv : Iv (wr.heap.size ≤ ·) w4 t (.bool l, .slice a1 n1 c1, .slice a2 n2 c2)) (rd : Rd gi r' w4) (hC : C.length ≤ 4194304) :
  ∃ v6' w6, (Builtin.append_ #[57, 57] ty #[v6, .slice (some ⟨w4.heap.size, 0, none⟩) 1 1]).run Try.prog (w4.alloc (.cells #[.bool l, .slice a1 n1 c1, .slice a2 n2 c2] 59)) = .ok v6' w6 ∧ LI gi w3 C v6' (ks ++ [t]) (vs ++ [(.bool l, .slice a1 n1 c1, .slice a2 n2 c2)]) r' w6 := by
 obtain ⟨i0, hi0, hz0, hz1, hz2⟩ := info_parts infoI; have hgi := h.rd.hi; have hlo := h.o.lt; have hs := ritem_shorter hi; have hk := h.l; have hn := h.n; have o4 : w4.ownsRow (gi + 1) 59 3 v6 vs.length (c3 vs) := h.o.kept hg (by
  cases hv : v6.ownBlock with
  | none => exact .inl rfl
  | some k =>
   right
   intro e; have := (hlo k hv).1; injection e with e
   omega)
 have hwr := hg.size; have hnew := heap_alloc_new w4 (.cells #[.bool l, .slice a1 n1 c1, .slice a2 n2 c2] 59); have hsz : (w4.alloc (.cells #[.bool l, .slice a1 n1 c1, .slice a2 n2 c2] 59)).heap.size = w4.heap.size + 1 := by simp
 have b5 : Below w4.heap.size w4 (w4.alloc (.cells #[.bool l, .slice a1 n1 c1, .slice a2 n2 c2] 59)) := (Below.refl _ _).alloc (Nat.le_refl _) _; have o5 := o4.alloc (.cells #[.bool l, .slice a1 n1 c1, .slice a2 n2 c2] 59); generalize w4.alloc (.cells #[.bool l, .slice a1 n1 c1, .slice a2 n2 c2] 59) = w5 at *; obtain ⟨G, cap, w6, hr, h6, hgr, hG, _⟩ := run_append_lies (P := Try.prog) w5 57 ty (gi + 1) 59 i0 (.agg #[.bool false, .slice none 0 0, .slice none 0 0]) 3 56 Try.underlying57 hi0 hz0 hz1 hz2 rfl (by decide) v6 vs.length (c3 vs) o5 ⟨w4.heap.size, 0, none⟩ 1 1 [.bool l, .slice a1 n1 c1, .slice a2 n2 c2] rfl
  (fun j u hj => by
   have ea : (⟨w4.heap.size, 0, none⟩ : Addr).add j = ⟨w4.heap.size, j, none⟩ := by unfold Addr.add; split <;> simp_all
   rw [ea]; simp only [World.cell?, hnew]; simpa using hj) (fun u hu => by
    simp only [List.mem_cons, List.not_mem_nil, or_false] at hu; rcases hu with rfl | rfl | rfl <;> rfl) (by decide) (by unfold maxLen; omega) (by omega) (by omega) _ rfl
 have hvo : ∀ k, v6.ownBlock = some k → gi + 1 ≤ k ∧ k < wr.heap.size := hlo; have hGS : ∀ k, k < w5.heap.size → v6.ownBlock ≠ some k → some G ≠ some k := fun k hk1 hk2 e => by
  injection e with e
  subst e; rcases hG with hG | hG
  ·exact hk2 hG
  ·omega
 refine ⟨_, w6, hr, ⟨?_, ?_, ?_, ?_, ?_, ?_, fun j hj => ?_⟩⟩
 ·rw [h.e, rkids_some hr0 hi, Option.map_map]; congr 1
  funext x
  simp
 ·rw [List.length_append, List.length_singleton]; omega
 ·exact Rd_up (Rd_below rd b5) hgr (fun j hj e => by have := (hvo j e.symm).1; omega)
 ·have x1 : Below gi wr w4 := ⟨hg.os, hg.tape, hg.output, hg.size, fun j hj => hg.block j (by omega) (fun e => by injection e with e; omega)⟩
  have x2 : Below gi w5 w6 := ⟨hgr.os, hgr.tape, hgr.output, hgr.size, fun j hj => hgr.block j (by omega) (fun e => by have := (hvo j e.symm).1; omega)⟩
  exact ((h.b.trans x1).trans (b5.mono (by omega))).trans x2
 ·rw [List.length_append, c3_app]; exact h6
 ·rw [List.length_append, List.length_append, hn]; rfl
 ·rw [List.length_append, List.length_singleton] at hj; by_cases hj2 : j < ks.length
  ·have e1 : (ks ++ [t]).getD j It.no = ks.getD j It.no := by simp [List.getD_eq_getElem?_getD, List.getElem?_append_left hj2]
   have e2 : (vs ++ [((.bool l, .slice a1 n1 c1, .slice a2 n2 c2) : V3)]).getD j n3 = vs.getD j n3 := by simp [List.getD_eq_getElem?_getD, List.getElem?_append_left (hn ▸ hj2)]
   rw [e1, e2]; have i5 := Iv_below (Iv_gb (h.i j hj2) hg (fun k hk1 e => by injection e with e; omega)) b5
   exact Iv_gb (Iv_mono (S' := fun k => (gi + 1 ≤ k ∧ some G ≠ some k) ∧ v6.ownBlock ≠ some k) i5 (fun k hk1 hk2 => ⟨⟨hk1.1, hGS k hk2 hk1.2⟩, hk1.2⟩)) hgr (fun k hk1 e => hk1.2 e.symm) |> fun x => Iv_mono x (fun k hk1 _ => hk1.1)
  ·have ej : j = ks.length := by omega
   subst ej; have e1 : (ks ++ [t]).getD ks.length It.no = t := by simp [List.getD_eq_getElem?_getD]
   have e2 : (vs ++ [((.bool l, .slice a1 n1 c1, .slice a2 n2 c2) : V3)]).getD ks.length n3 = (.bool l, .slice a1 n1 c1, .slice a2 n2 c2) := by rw [← hn]; simp [List.getD_eq_getElem?_getD]
   rw [e1, e2]; have i5 := Iv_below iv b5; have hS : ∀ k, wr.heap.size ≤ k → v6.ownBlock ≠ some k := fun k hk1 e => by have := (hvo k e).2; omega
   exact Iv_gb (Iv_mono (S' := fun k => (gi + 1 ≤ k ∧ some G ≠ some k) ∧ v6.ownBlock ≠ some k) i5 (fun k hk1 hk2 => ⟨⟨by omega, hGS k hk2 (hS k hk1)⟩, hS k hk1⟩)) hgr (fun k hk1 e => hk1.2 e.symm) |> fun x => Iv_mono x (fun k hk1 _ => hk1.1)
set_option maxHeartbeats 400000 in
set_option maxRecDepth 100000 in
theorem list_no1 (g s : Nat) (b : List UInt8) (hs : s < 64) (hb : b.length ≤ 4194304) (hr : rsz s b = none) (w : World) (h : Rd g b w) :
  Calls Try.prog 64 #[.pointer (some ⟨g, 0, none⟩), .int .u8 (s : Int)] w fun e w' => e = .panicked [{ v := FT, recovered := false }] ∧ w.grownBy w' (some g) := by
 have K : Hid (Calls Try.prog 69 #[.pointer (some ⟨g, 0, none⟩), .int .u8 (s : Int)] w fun e w' => e = .panicked [{ v := FT, recovered := false }] ∧ w.grownBy w' (some g)) := size_no g s b hs hb hr w h
 clear hs hb hr h; generalize FT = X at *; go_enter Try.func64, Try.ntmps64
 go_wp2_with fail
 refine K.out.mono (fun e w2 he => ?_)
 obtain ⟨rfl, hg⟩ := he; exact ⟨rfl, rfl, hg⟩
set_option maxHeartbeats 400000 in
set_option maxRecDepth 100000 in
theorem list_no2 (g s n k : Nat) (b : List UInt8) (hs : s < 64) (hb : b.length ≤ 4194304) (hr : rsz s b = some (n, k)) (hn : (b.drop k).length < n) (w : World) (h : Rd g b w) :
  Calls Try.prog 64 #[.pointer (some ⟨g, 0, none⟩), .int .u8 (s : Int)] w fun e w' => e = .panicked [{ v := FT, recovered := false }] ∧ w.grownBy w' (some g) := by
 have K : Hid (Calls Try.prog 69 #[.pointer (some ⟨g, 0, none⟩), .int .u8 (s : Int)] w fun e w' => e = .returned (.int .i64 (n : Int)) ∧ Rd g (b.drop k) w' ∧ w.grownBy w' (some g)) := size_ok g s n k b hs hb hr w h
 have K2 : Hid (∀ w : World, Rd g (b.drop k) w → Calls Try.prog 62 #[.pointer (some ⟨g, 0, none⟩), .int .i64 (n : Int)] w fun e w' => e = .panicked [{ v := FT, recovered := false }] ∧ w' = w) := fun w h => take_no g _ n w h hn
 clear hs hb hr h hn; generalize FT = X at *; go_enter Try.func64, Try.ntmps64
 go_wp2_with fail
 refine K.out.mono (fun e w2 he => ?_)
 obtain ⟨rfl, hR, hg⟩ := he; go_wp2_with fail
 refine (K2.out _ hR).mono (fun e w3 he => ?_)
 obtain ⟨rfl, rfl⟩ := he; exact ⟨rfl, rfl, hg⟩
set_option maxHeartbeats 1000000 in
set_option maxRecDepth 100000 in
theorem list_go (N : Nat) (IH : ItemC N) (g s n k : Nat) (b : List UInt8) (hs : s < 64) (hb : b.length ≤ 4194304) (hbN : b.length ≤ N) (hr : rsz s b = some (n, k)) (hn : n ≤ (b.drop k).length) (w : World) (h : Rd g b w) :
  Calls Try.prog 64 #[.pointer (some ⟨g, 0, none⟩), .int .u8 (s : Int)] w fun e w' => w.grownBy w' (some g) ∧ ((rkids ((b.drop k).take n) = none ∧ e = .panicked [{ v := FT, recovered := false }]) ∨ ∃ ks vs kv, rkids ((b.drop k).take n) = some ks ∧ e = .returned kv ∧ Kx (w.heap.size ≤ ·) vs kv w' ∧ vs.length = ks.length ∧ (∀ j, j < ks.length → Iv (w.heap.size ≤ ·) w' (ks.getD j It.no) (vs.getD j n3)) ∧ Rd g ((b.drop k).drop n) w') := by
 have K : Hid (Calls Try.prog 69 #[.pointer (some ⟨g, 0, none⟩), .int .u8 (s : Int)] w fun e w' => e = .returned (.int .i64 (n : Int)) ∧ Rd g (b.drop k) w' ∧ w.grownBy w' (some g)) := size_ok g s n k b hs hb hr w h
 have K2 : Hid (∀ w : World, Rd g (b.drop k) w → Calls Try.prog 62 #[.pointer (some ⟨g, 0, none⟩), .int .i64 (n : Int)] w fun e w' => ∃ v1, e = .returned v1 ∧ Sx g ((b.drop k).take n) v1 w' ∧ Rd g ((b.drop k).drop n) w' ∧ w.grownBy w' (some g)) := fun w h => take_ok g _ n w h hn
 have LT : Hid (((b.drop k).take n).length ≤ N ∧ ((b.drop k).take n).length ≤ 4194304) := by show _ ∧ _; simp only [List.length_take, List.length_drop]; omega
 have HX : Hid (∀ (b : List UInt8) (g : Nat) (w : World), b.length ≤ N → Rd g b w → Calls Try.prog 55 #[.pointer (some ⟨g, 0, none⟩)] w fun e w' => w.grownBy w' (some g) ∧ ((ritem b = none ∧ e = .panicked [{ v := FT, recovered := false }]) ∨ ∃ t r v, ritem b = some (t, r) ∧ e = .returned (v3 v) ∧ Iv (w.heap.size ≤ ·) w' t v ∧ Rd g r w')) := IH
 clear IH hs hb hbN hr hn h; generalize hc : b.drop k = c at *; clear hc; generalize FT = X at *; go_enter Try.func64, Try.ntmps64
 go_wp2_with fail
 refine K.out.mono (fun e w2 he => ?_)
 obtain ⟨rfl, hR, hg⟩ := he; go_wp2_with fail
 refine (K2.out _ hR).mono (fun e w3 he => ?_)
 obtain ⟨v1, rfl, s1, r1, g1⟩ := he; have G3 : Hid (w.grownBy w3 (some g)) := gb_trans hg g1; have R3 : Hid (Rd g (c.drop n) w3) := r1; have S3 : Hid (Sx g (c.take n) v1 w3) := s1; obtain ⟨ao, cap, rfl, q2, q3, q4⟩ := s1; clear K K2 hR hg g1 r1 q2 q3 q4; generalize hm : (c.take n).length = m at *; go_wp2_with fail
 have r4 := rd_new S3.out 102; have b4 : Below w3.heap.size w3 (w3.alloc (.cells #[.slice ao m cap] 102)) := (Below.refl _ _).alloc (Nat.le_refl _) _; obtain ⟨gi, egi⟩ : ∃ gi, gi = w3.heap.size := ⟨_, rfl⟩; have EG : Hid (gi = w3.heap.size) := egi; rw [← egi] at r4 b4 ⊢; clear egi S3; generalize w3.alloc (.cells #[.slice ao m cap] 102) = W1 at r4 b4 ⊢; have L0 : LI gi w3 (c.take n) (.slice none 0 0) [] [] (c.take n) W1 := ⟨by simp, by simp, r4, b4, World.ownsRow_nil _ _ _ _, rfl, fun j hj => absurd hj (by simp)⟩
 have LC : Hid ((c.take n).length ≤ N ∧ (c.take n).length ≤ 4194304) := hm ▸ LT; clear r4 b4 LT hm; go_loopw [6] (fun v6 wr => ∃ ks vs r, LI gi w3 (c.take n) v6 ks vs r wr) (fun _ wr => slen ((wr.cell? ⟨gi, 0, none⟩).getD undef))
 case atStart => exact ⟨[], [], _, L0⟩
 case round =>
  clear L0; obtain ⟨ks, vs, r, hI⟩ := hrel; have HI2 : Hid (LI gi w3 (c.take n) u6 ks vs r wr) := hI; obtain ⟨vr, c1, ao2, cap2, rfl, -⟩ := hI.rd.s; by_cases hlt : 0 < r.length
  ·have KI : Hid (Calls Try.prog 55 #[.pointer (some ⟨gi, 0, none⟩)] wr fun e w' => wr.grownBy w' (some gi) ∧ ((ritem r = none ∧ e = .panicked [{ v := X, recovered := false }]) ∨ ∃ t r2 v, ritem r = some (t, r2) ∧ e = .returned (v3 v) ∧ Iv (wr.heap.size ≤ ·) w' t v ∧ Rd gi r2 w')) := HX.out r gi wr (by have := hI.l; have := LC.out.1; omega) hI.rd
   have d0 : decide ((0 : Int) < (r.length : Int)) = true := decide_eq_true (by omega); have HLT : Hid (0 < r.length) := hlt; clear hI hlt; generalize hq : r.length = q at *; go_wp2_with fail
   refine KI.out.mono (fun e w4 he => ?_)
   obtain ⟨hg, ⟨hn, rfl⟩ | ⟨t, r', v, hi, rfl, iv, rd⟩⟩ := he
   ·have A1 : w.grownBy w4 (some g) := gb_trans G3.out (gb_below (by
     have x1 : Below gi wr w4 := ⟨hg.os, hg.tape, hg.output, hg.size, fun j hj => hg.block j (by have := HI2.out.rd.hi; omega) (fun e => by injection e with e; omega)⟩
     rw [← EG.out]; exact HI2.out.b.trans x1))
    have A2 : rkids (c.take n) = none := by rw [HI2.out.e, rkids_none (by rw [hq]; exact HLT.out) hn]; rfl
    clear KI c1 d0; exact ⟨rfl, A1, .inl ⟨A2, rfl⟩⟩
   ·obtain ⟨l, a1, n1, c2, a2, n2, c3, rfl⟩ := Iv_form iv; obtain ⟨v6', w6, hap, hI6⟩ := LI_step 57 HI2.out (by rw [hq]; exact HLT.out) hg hi iv rd LC.out.2
    have hM : Hid (slen ((w6.cell? ⟨gi, 0, none⟩).getD undef) < q) := by
     obtain ⟨vr2, y1, ao3, cap3, rfl, -⟩ := hI6.rd.s; have := ritem_shorter hi; show _ < _
     rw [y1]; simp only [Option.getD_some, slen]; omega
    clear KI d0 HI2 hg iv rd hi; dsimp only [v3]; go_wp2_with (at_builtin; refine wpList_apw rfl rfl rfl rfl hap ?_)
    refine ⟨⟨_, _, _, hI6⟩, ?_⟩; have e9 : slen ((wr.cell? ⟨gi, 0, none⟩).getD undef) = q := by rw [c1]; rfl
    exact Nat.lt_of_lt_of_eq hM.out e9.symm
  ·have e0 : r = [] := List.length_eq_zero_iff.1 (by omega); subst e0; have d0 : decide ((0 : Int) < (([] : List UInt8).length : Int)) = false := rfl; clear hlt hI; go_wp2_with fail
   go_ret
   have hJ := HI2.out; have eg := EG.out; have hsz := G3.out.size; refine ⟨gb_trans G3.out (gb_below (by rw [← eg]; exact hJ.b)), .inr ⟨ks, vs, u6, ?_, rfl, Kx_mono (own_kx hJ.o) (fun k hk _ => by omega), hJ.n, fun j hj => Iv_mono (hJ.i j hj) (fun k hk _ => by omega), Rd_below R3.out (by rw [← eg]; exact hJ.b)⟩⟩
   rw [hJ.e, rkids_nil]; simp
end Pk
end Go.Proofs.Ytlbdaccmnpcccaa
namespace Go.Proofs.Ytlbdaccmnpcccaa
namespace Pk
open Go.RowKit
theorem gb_new {w a b : World} {g G : Nat} (h : w.grownBy a (some g)) (k : a.grownBy b (some G)) (hG : w.heap.size ≤ G) : w.grownBy b (some g) :=
 ⟨k.os.trans h.os, k.tape.trans h.tape, k.output.trans h.output, Nat.le_trans h.size k.size, fun j hj hne => (k.block j (Nat.lt_of_lt_of_le hj h.size) (fun e => by injection e with e; omega)).trans (h.block j hj hne)⟩
theorem infoIa : (Try.prog.info? 59).map (·.size) = some 3 := by kernel_rfl
structure B3 (G : Nat) (w : World) : Prop where
 hi : G < w.heap.size
 c : ∀ o, o < 3 → (w.cell? ⟨G, o, none⟩).isSome = true
 f : ∀ o, w.frozen? ⟨G, o, none⟩ = false
theorem B3_gb {G : Nat} {w w' : World} {r : Option Nat} (h : B3 G w) (hb : w.grownBy w' r) (hr : some G ≠ r) : B3 G w' := by
 have hbk : w'.heap[G]? = w.heap[G]? := hb.block G h.hi hr; exact ⟨Nat.lt_of_lt_of_le h.hi hb.size, fun o ho => by rw [World.cell?_of_block (a := ⟨G, o, none⟩) hbk]; exact h.c o ho, fun o => (World.frozen?_of_block (a := ⟨G, o, none⟩) hbk).trans (h.f o)⟩
theorem B3_new (w : World) : B3 w.heap.size (w.alloc (.cells #[.bool false, .slice none 0 0, .slice none 0 0] 59)) := by
 have hn := heap_alloc_new w (.cells #[.bool false, .slice none 0 0, .slice none 0 0] 59); refine ⟨by simp, fun o ho => ?_, fun o => by simp only [World.frozen?, hn]; simp⟩
 simp only [World.cell?, hn]; have : o = 0 ∨ o = 1 ∨ o = 2 := by omega
 rcases this with rfl | rfl | rfl <;> rfl
theorem gb_sets (G : Nat) : ∀ (vs : List Value) (o : Nat) (w : World), w.grownBy (w.setCells G o vs) (some G)
 | [], _, w => gb_refl w _
 | v :: vs, o, w => gb_trans (gb_set w G o v) (gb_sets G vs (o + 1) (w.setCell ⟨G, o, none⟩ v))
theorem wpList_st3 {ops : Array Oper} {rest : List Oper} {op : Oper} {a : Act} {w : World} {Q : Exit → Act → World → Prop} {x y : Operand} {G : Nat} {l : Bool} {a1 a2 : Option Addr} {n1 c1 n2 c2 : Nat} (hgd : op.guard = none) (ho : op.op = .store 59 x y)
  (hx : a.eval x = .pointer (some ⟨G, 0, none⟩)) (hy : a.eval y = .agg #[.bool l, .slice a1 n1 c1, .slice a2 n2 c2]) (hB : B3 G w)
  (h : ∀ w', w.grownBy w' (some G) → w'.cell? ⟨G, 0, none⟩ = some (.bool l) → w'.cell? ⟨G, 1, none⟩ = some (.slice a1 n1 c1) → w'.cell? ⟨G, 2, none⟩ = some (.slice a2 n2 c2) → wpList Try.prog ops Q rest (a.put op.dst undef) w') : wpList Try.prog ops Q (op :: rest) a w := by
 have ht : w.there G 0 3 := fun j hj => by rw [Nat.zero_add]; exact ⟨hB.c j hj, hB.f j⟩
 have hs := World.rangeAt_setCells_same w G 0 [.bool l, .slice a1 n1 c1, .slice a2 n2 c2] ht; refine wpList_store_mid hgd 59 x y ho G 0 #[.bool l, .slice a1 n1 c1, .slice a2 n2 c2] hx hy ht infoIa (all_oneCell_toArray (cs := [.bool l, .slice a1 n1 c1, .slice a2 n2 c2]) (fun v hv => by simp only [List.mem_cons, List.not_mem_nil, or_false] at hv; rcases hv with rfl | rfl | rfl <;> rfl)) ?_
 exact h _ (gb_sets G _ 0 w) (hs 0 _ rfl) (hs 1 _ rfl) (hs 2 _ rfl)
set_option maxHeartbeats 400000 in
set_option maxRecDepth 100000 in
theorem item_none (g : Nat) (w : World) (h : Rd g [] w) :
  Calls Try.prog 55 #[.pointer (some ⟨g, 0, none⟩)] w fun e w' => e = .panicked [{ v := FT, recovered := false }] ∧ w.grownBy w' (some g) := by
 have h1 := Rd_below h ((Below.refl _ _).alloc (Nat.le_refl _) (.cells #[.bool false, .slice none 0 0, .slice none 0 0] 59)); have K : Hid (Calls Try.prog 62 #[.pointer (some ⟨g, 0, none⟩), .int .i64 1] (w.alloc (.cells #[.bool false, .slice none 0 0, .slice none 0 0] 59)) fun e w' => e = .panicked [{ v := FT, recovered := false }] ∧ w' = (w.alloc (.cells #[.bool false, .slice none 0 0, .slice none 0 0] 59))) := take_no g _ 1 _ h1 (by decide)
 have A : Hid (w.grownBy (w.alloc (.cells #[.bool false, .slice none 0 0, .slice none 0 0] 59)) (some g)) := World.grownBy_alloc _ _ _; clear h h1; generalize FT = X at *; go_enter Try.func55, Try.ntmps55
 go_wp2_with fail
 refine K.out.mono (fun e w3 he => ?_)
 obtain ⟨rfl, rfl⟩ := he; exact ⟨rfl, rfl, A.out⟩
theorem resI (f : Func) (tm : Array Value) (W : World) (g s : Nat) (p q r : Value) (hf : f.results = #[.cell s 59]) (h : tm.getD s undef = .pointer (some ⟨g, 0, none⟩)) (c0 : W.cell? ⟨g, 0, none⟩ = some p) (c1 : W.cell? ⟨g, 1, none⟩ = some q) (c2 : W.cell? ⟨g, 2, none⟩ = some r) : (results f tm).run Try.prog W = .ok (.agg #[p, q, r]) W := by
 simp at h
 simp [results, hf, go_sem, h, c0, c1, c2]
set_option maxHeartbeats 1000000 in
set_option maxRecDepth 100000 in
theorem item_one (g : Nat) (c : UInt8) (r : List UInt8) (w : World) (h : Rd g (c :: r) w) (hc : c.toNat < 128) :
  Calls Try.prog 55 #[.pointer (some ⟨g, 0, none⟩)] w fun e w' => ∃ v, e = .returned (v3 v) ∧ Iv (w.heap.size ≤ ·) w' (.mk false [c] []) v ∧ Rd g r w' ∧ w.grownBy w' (some g) := by
 have hgw := h.hi; have h1 := Rd_below h ((Below.refl _ _).alloc (Nat.le_refl _) (.cells #[.bool false, .slice none 0 0, .slice none 0 0] 59)); have K := take_ok g _ 1 _ h1 (by simp); have A : Hid (w.grownBy (w.alloc (.cells #[.bool false, .slice none 0 0, .slice none 0 0] 59)) (some g)) := World.grownBy_alloc _ _ _; have hG := B3_new w; have d0 : decide ((c.toNat : Int) < 128) = true := decide_eq_true (by omega); obtain ⟨G, eG⟩ : ∃ G, G = w.heap.size := ⟨_, rfl⟩; have EG : Hid (G = w.heap.size) := eG; have HW : Hid (g < G) := eG ▸ hgw; clear h h1 hgw hc; go_enter Try.func55, Try.ntmps55
 go_upto_region 1 with fail
 rw [← eG] at hG ⊢; clear eG; generalize w.alloc (.cells #[.bool false, .slice none 0 0, .slice none 0 0] 59) = W0 at *; go_wp2_with fail
 refine K.mono (fun e w3 he => ?_)
 obtain ⟨v1, rfl, s1, r1, g1⟩ := he; obtain ⟨ao, cap, rfl, q2, q3, q4⟩ := s1; obtain ⟨k, off, rfl, hkg, hlt, hcell⟩ := q4 (by simp); have c1 : w3.cell? ⟨k, off, none⟩ = some (.int .u8 (c.toNat : Int)) := hcell 0 (by simp); have hG3 : B3 G w3 := B3_gb hG g1 (fun e => by injection e with e; have := HW.out; omega)
 have e1 : (List.take 1 (c :: r)).length = 1 := by simp
 rw [e1] at q2 ⊢; have hGl : G < w3.heap.size := Nat.lt_of_lt_of_le hG.hi g1.size; have GL : Hid (G < w3.heap.size) := hGl; clear K hcell q4 e1; have hG4 : B3 G (w3.alloc (.cells #[.int .u8 (c.toNat : Int)] 5)) := B3_gb hG3 (World.grownBy_alloc _ _ none) (fun e => by cases e)
 have o4 : (w3.alloc (.cells #[.int .u8 (c.toNat : Int)] 5)).ownsRow w3.heap.size 5 1 (.slice (some ⟨w3.heap.size, 0, none⟩) 1 1) [c].length (bcs [c]) := World.ownsRow_lit w3 #[.int .u8 (c.toNat : Int)] 1 (Nat.le_refl _) (by decide) rfl; have T4 : Hid (Ty (w3.heap.size ≤ ·) [c] (.slice (some ⟨w3.heap.size, 0, none⟩) 1 1) (w3.alloc (.cells #[.int .u8 (c.toNat : Int)] 5))) := Tx_ty (own_tx o4); have G4 : Hid (w.grownBy (w3.alloc (.cells #[.int .u8 (c.toNat : Int)] 5)) (some g)) := gb_trans (gb_trans A.out g1) (World.grownBy_alloc _ _ _); have R4 : Hid (Rd g r (w3.alloc (.cells #[.int .u8 (c.toNat : Int)] 5))) := Rd_below r1 ((Below.refl _ _).alloc (Nat.le_refl _) _); clear hG hG3 o4 r1 g1 hGl hkg A; go_wp2_with (refine wpList_st3 rfl rfl rfl rfl hG4 ?_)
 intro w9 gb9 z0 z1 z2; have G9 : Hid (w.grownBy w9 (some g)) := gb_new G4.out gb9 (by rw [EG.out]; exact Nat.le_refl _)
 have R9 : Hid (Rd g r w9) := Rd_up R4.out gb9 (fun j hj e => by injection e with e; have := HW.out; omega)
 have T9 : Hid (Ty (w.heap.size ≤ ·) [c] (.slice (some ⟨w3.heap.size, 0, none⟩) 1 1) w9) := Ty_mono (Ty_gb T4.out gb9 (fun k hk e => by injection e with e; have := GL.out; omega)) (fun k hk _ => by have := GL.out; have := EG.out; omega)
 clear T4 G4 R4 gb9 hG4; generalize w3.heap.size = g4 at *; go_wp2_with fail
 exact bodyPost_ret (v := .agg #[.bool false, .slice (some ⟨g4, 0, none⟩) 1 1, .slice none 0 0]) (resI _ _ _ G 2 _ _ _ rfl rfl z0 z1 z2) rfl ⟨(.bool false, .slice (some ⟨g4, 0, none⟩) 1 1, .slice none 0 0), rfl, .mk _ _ _ _ _ [] T9.out rfl (Kx_nil _ _) (fun j hj => absurd hj (by simp)), R9.out, G9.out⟩
set_option maxHeartbeats 1000000 in
set_option maxRecDepth 100000 in
theorem item_text_no (g : Nat) (c : UInt8) (r : List UInt8) (w : World) (h : Rd g (c :: r) w) (hc : 128 ≤ c.toNat) (hd : c.toNat < 192) (KT : Hid (∀ w : World, Rd g r w → Calls Try.prog 63 #[.pointer (some ⟨g, 0, none⟩), .int .u8 ((c.toNat : Int) - 128)] w fun e w' => e = .panicked [{ v := FT, recovered := false }] ∧ w.grownBy w' (some g))) :
  Calls Try.prog 55 #[.pointer (some ⟨g, 0, none⟩)] w fun e w' => e = .panicked [{ v := FT, recovered := false }] ∧ w.grownBy w' (some g) := by
 have hgw := h.hi; have h1 := Rd_below h ((Below.refl _ _).alloc (Nat.le_refl _) (.cells #[.bool false, .slice none 0 0, .slice none 0 0] 59)); have K := take_ok g _ 1 _ h1 (by simp); have A : Hid (w.grownBy (w.alloc (.cells #[.bool false, .slice none 0 0, .slice none 0 0] 59)) (some g)) := World.grownBy_alloc _ _ _; have hG := B3_new w; have d0 : decide ((c.toNat : Int) < 128) = false := decide_eq_false (by omega); have d1 : decide ((c.toNat : Int) < 192) = true := decide_eq_true (by omega); have d2 : IntKind.u8.wrap ((c.toNat : Int) - 128) = (c.toNat : Int) - 128 := by rw [IntKind.wrap_u8]; have := c.toNat_lt; omega
 obtain ⟨G, eG⟩ : ∃ G, G = w.heap.size := ⟨_, rfl⟩; have EG : Hid (G = w.heap.size) := eG; have HW : Hid (g < G) := eG ▸ hgw; clear h h1 hgw hc hd; generalize FT = X at *; go_enter Try.func55, Try.ntmps55
 go_upto_region 1 with fail
 rw [← eG] at hG ⊢; clear eG; generalize w.alloc (.cells #[.bool false, .slice none 0 0, .slice none 0 0] 59) = W0 at *; go_wp2_with fail
 refine K.mono (fun e w3 he => ?_)
 obtain ⟨v1, rfl, s1, r1, g1⟩ := he; obtain ⟨ao, cap, rfl, q2, q3, q4⟩ := s1; obtain ⟨k, off, rfl, hkg, hlt, hcell⟩ := q4 (by simp); have c1 : w3.cell? ⟨k, off, none⟩ = some (.int .u8 (c.toNat : Int)) := hcell 0 (by simp); have hG3 : B3 G w3 := B3_gb hG g1 (fun e => by injection e with e; have := HW.out; omega)
 have e1 : (List.take 1 (c :: r)).length = 1 := by simp
 rw [e1] at q2 ⊢; have hGl : G < w3.heap.size := Nat.lt_of_lt_of_le hG.hi g1.size; have GL : Hid (G < w3.heap.size) := hGl; clear K hcell q4 e1; have R3 := r1; have G3 : Hid (w.grownBy w3 (some g)) := gb_trans A.out g1; clear hG hG3 g1 hGl hkg A r1; go_wp2_with fail
 refine (KT.out _ R3).mono (fun e w4 he => ?_)
 obtain ⟨rfl, g4⟩ := he; exact ⟨rfl, rfl, gb_trans G3.out g4⟩
set_option maxHeartbeats 1000000 in
set_option maxRecDepth 100000 in
theorem item_list_no (g : Nat) (c : UInt8) (r : List UInt8) (w : World) (h : Rd g (c :: r) w) (hc : 192 ≤ c.toNat) (KT : Hid (∀ w : World, Rd g r w → Calls Try.prog 64 #[.pointer (some ⟨g, 0, none⟩), .int .u8 ((c.toNat : Int) - 192)] w fun e w' => e = .panicked [{ v := FT, recovered := false }] ∧ w.grownBy w' (some g))) :
  Calls Try.prog 55 #[.pointer (some ⟨g, 0, none⟩)] w fun e w' => e = .panicked [{ v := FT, recovered := false }] ∧ w.grownBy w' (some g) := by
 have hgw := h.hi; have h1 := Rd_below h ((Below.refl _ _).alloc (Nat.le_refl _) (.cells #[.bool false, .slice none 0 0, .slice none 0 0] 59)); have K := take_ok g _ 1 _ h1 (by simp); have A : Hid (w.grownBy (w.alloc (.cells #[.bool false, .slice none 0 0, .slice none 0 0] 59)) (some g)) := World.grownBy_alloc _ _ _; have hG := B3_new w; have d0 : decide ((c.toNat : Int) < 128) = false := decide_eq_false (by omega); have d1 : decide ((c.toNat : Int) < 192) = false := decide_eq_false (by omega); have d2 : IntKind.u8.wrap ((c.toNat : Int) - 192) = (c.toNat : Int) - 192 := by rw [IntKind.wrap_u8]; have := c.toNat_lt; omega
 obtain ⟨G, eG⟩ : ∃ G, G = w.heap.size := ⟨_, rfl⟩; have EG : Hid (G = w.heap.size) := eG; have HW : Hid (g < G) := eG ▸ hgw; clear h h1 hgw hc; generalize FT = X at *; go_enter Try.func55, Try.ntmps55
 go_upto_region 1 with fail
 rw [← eG] at hG ⊢; clear eG; generalize w.alloc (.cells #[.bool false, .slice none 0 0, .slice none 0 0] 59) = W0 at *; go_wp2_with fail
 refine K.mono (fun e w3 he => ?_)
 obtain ⟨v1, rfl, s1, r1, g1⟩ := he; obtain ⟨ao, cap, rfl, q2, q3, q4⟩ := s1; obtain ⟨k, off, rfl, hkg, hlt, hcell⟩ := q4 (by simp); have c1 : w3.cell? ⟨k, off, none⟩ = some (.int .u8 (c.toNat : Int)) := hcell 0 (by simp); have hG3 : B3 G w3 := B3_gb hG g1 (fun e => by injection e with e; have := HW.out; omega)
 have e1 : (List.take 1 (c :: r)).length = 1 := by simp
 rw [e1] at q2 ⊢; have hGl : G < w3.heap.size := Nat.lt_of_lt_of_le hG.hi g1.size; have GL : Hid (G < w3.heap.size) := hGl; clear K hcell q4 e1; have R3 := r1; have G3 : Hid (w.grownBy w3 (some g)) := gb_trans A.out g1; clear hG hG3 g1 hGl hkg A r1; go_wp2_with fail
 refine (KT.out _ R3).mono (fun e w4 he => ?_)
 obtain ⟨rfl, g4⟩ := he; exact ⟨rfl, rfl, gb_trans G3.out g4⟩
set_option maxHeartbeats 1000000 in
set_option maxRecDepth 100000 in
theorem item_text (T R : List UInt8) (g : Nat) (c : UInt8) (r : List UInt8) (w : World) (h : Rd g (c :: r) w) (hc : 128 ≤ c.toNat) (hd : c.toNat < 192) (KT : Hid (∀ w : World, Rd g r w → Calls Try.prog 63 #[.pointer (some ⟨g, 0, none⟩), .int .u8 ((c.toNat : Int) - 128)] w fun e w' => ∃ v', e = .returned v' ∧ Tx w.heap.size T v' w' ∧ Rd g R w' ∧ w.grownBy w' (some g))) :
  Calls Try.prog 55 #[.pointer (some ⟨g, 0, none⟩)] w fun e w' => ∃ v, e = .returned (v3 v) ∧ Iv (w.heap.size ≤ ·) w' (.mk false T []) v ∧ Rd g R w' ∧ w.grownBy w' (some g) := by
 have hgw := h.hi; have h1 := Rd_below h ((Below.refl _ _).alloc (Nat.le_refl _) (.cells #[.bool false, .slice none 0 0, .slice none 0 0] 59)); have K := take_ok g _ 1 _ h1 (by simp); have A : Hid (w.grownBy (w.alloc (.cells #[.bool false, .slice none 0 0, .slice none 0 0] 59)) (some g)) := World.grownBy_alloc _ _ _; have hG := B3_new w; have d0 : decide ((c.toNat : Int) < 128) = false := decide_eq_false (by omega); have d1 : decide ((c.toNat : Int) < 192) = true := decide_eq_true (by omega); have d2 : IntKind.u8.wrap ((c.toNat : Int) - 128) = (c.toNat : Int) - 128 := by rw [IntKind.wrap_u8]; have := c.toNat_lt; omega
 obtain ⟨G, eG⟩ : ∃ G, G = w.heap.size := ⟨_, rfl⟩; have EG : Hid (G = w.heap.size) := eG; have HW : Hid (g < G) := eG ▸ hgw; clear h h1 hgw hc hd; go_enter Try.func55, Try.ntmps55
 go_upto_region 1 with fail
 rw [← eG] at hG ⊢; clear eG; generalize w.alloc (.cells #[.bool false, .slice none 0 0, .slice none 0 0] 59) = W0 at *; go_wp2_with fail
 refine K.mono (fun e w3 he => ?_)
 obtain ⟨v1, rfl, s1, r1, g1⟩ := he; obtain ⟨ao, cap, rfl, q2, q3, q4⟩ := s1; obtain ⟨k, off, rfl, hkg, hlt, hcell⟩ := q4 (by simp); have c1 : w3.cell? ⟨k, off, none⟩ = some (.int .u8 (c.toNat : Int)) := hcell 0 (by simp); have hG3 : B3 G w3 := B3_gb hG g1 (fun e => by injection e with e; have := HW.out; omega)
 have e1 : (List.take 1 (c :: r)).length = 1 := by simp
 rw [e1] at q2 ⊢; have hGl : G < w3.heap.size := Nat.lt_of_lt_of_le hG.hi g1.size; have GL : Hid (G < w3.heap.size) := hGl; clear K hcell q4 e1; have R3 := r1; have G3 : Hid (w.grownBy w3 (some g)) := gb_trans A.out g1; have B3' : Hid (B3 G w3) := hG3; clear hG hG3 g1 hGl hkg A r1; go_wp2_with fail
 refine (KT.out _ R3).mono (fun e w4 he => ?_)
 obtain ⟨v4, rfl, t4, r4, g4⟩ := he; have hG4 : B3 G w4 := B3_gb B3'.out g4 (fun e => by injection e with e; have := HW.out; omega)
 have T4 : Hid (Ty (w3.heap.size ≤ ·) T v4 w4) := Tx_ty t4; have G4 : Hid (w.grownBy w4 (some g)) := gb_trans G3.out g4; have R4 : Hid (Rd g R w4) := r4; obtain ⟨a1, cp1, rfl, -⟩ := t4; clear KT R3 g4 r4 B3' G3; generalize T.length = n1 at *; go_wp2_with (refine wpList_st3 rfl rfl rfl rfl hG4 ?_)
 intro w9 gb9 z0 z1 z2; have G9 : Hid (w.grownBy w9 (some g)) := gb_new G4.out gb9 (by rw [EG.out]; exact Nat.le_refl _)
 have R9 : Hid (Rd g R w9) := Rd_up R4.out gb9 (fun j hj e => by injection e with e; have := HW.out; omega)
 have T9 : Hid (Ty (w.heap.size ≤ ·) T (.slice a1 n1 cp1) w9) := Ty_mono (Ty_gb T4.out gb9 (fun k hk e => by injection e with e; have := GL.out; omega)) (fun k hk _ => by have := GL.out; have := EG.out; omega)
 clear T4 G4 R4 gb9 hG4; go_wp2_with fail
 exact bodyPost_ret (v := .agg #[.bool false, .slice a1 n1 cp1, .slice none 0 0]) (resI _ _ _ G 2 _ _ _ rfl rfl z0 z1 z2) rfl ⟨(.bool false, .slice a1 n1 cp1, .slice none 0 0), rfl, .mk _ _ _ _ _ [] T9.out rfl (Kx_nil _ _) (fun j hj => absurd hj (by simp)), R9.out, G9.out⟩
set_option maxHeartbeats 1000000 in
set_option maxRecDepth 100000 in
theorem item_list (ks : List It) (R : List UInt8) (g : Nat) (c : UInt8) (r : List UInt8) (w : World) (h : Rd g (c :: r) w) (hc : 192 ≤ c.toNat) (KT : Hid (∀ w : World, Rd g r w → Calls Try.prog 64 #[.pointer (some ⟨g, 0, none⟩), .int .u8 ((c.toNat : Int) - 192)] w fun e w' => ∃ vs kv, e = .returned kv ∧ Kx (w.heap.size ≤ ·) vs kv w' ∧ vs.length = ks.length ∧ (∀ j, j < ks.length → Iv (w.heap.size ≤ ·) w' (ks.getD j It.no) (vs.getD j n3)) ∧ Rd g R w' ∧ w.grownBy w' (some g))) :
  Calls Try.prog 55 #[.pointer (some ⟨g, 0, none⟩)] w fun e w' => ∃ v, e = .returned (v3 v) ∧ Iv (w.heap.size ≤ ·) w' (.mk true [] ks) v ∧ Rd g R w' ∧ w.grownBy w' (some g) := by
 have hgw := h.hi; have h1 := Rd_below h ((Below.refl _ _).alloc (Nat.le_refl _) (.cells #[.bool false, .slice none 0 0, .slice none 0 0] 59)); have K := take_ok g _ 1 _ h1 (by simp); have A : Hid (w.grownBy (w.alloc (.cells #[.bool false, .slice none 0 0, .slice none 0 0] 59)) (some g)) := World.grownBy_alloc _ _ _; have hG := B3_new w; have d0 : decide ((c.toNat : Int) < 128) = false := decide_eq_false (by omega); have d1 : decide ((c.toNat : Int) < 192) = false := decide_eq_false (by omega); have d2 : IntKind.u8.wrap ((c.toNat : Int) - 192) = (c.toNat : Int) - 192 := by rw [IntKind.wrap_u8]; have := c.toNat_lt; omega
 obtain ⟨G, eG⟩ : ∃ G, G = w.heap.size := ⟨_, rfl⟩; have EG : Hid (G = w.heap.size) := eG; have HW : Hid (g < G) := eG ▸ hgw; clear h h1 hgw hc; go_enter Try.func55, Try.ntmps55
 go_upto_region 1 with fail
 rw [← eG] at hG ⊢; clear eG; generalize w.alloc (.cells #[.bool false, .slice none 0 0, .slice none 0 0] 59) = W0 at *; go_wp2_with fail
 refine K.mono (fun e w3 he => ?_)
 obtain ⟨v1, rfl, s1, r1, g1⟩ := he; obtain ⟨ao, cap, rfl, q2, q3, q4⟩ := s1; obtain ⟨k, off, rfl, hkg, hlt, hcell⟩ := q4 (by simp); have c1 : w3.cell? ⟨k, off, none⟩ = some (.int .u8 (c.toNat : Int)) := hcell 0 (by simp); have hG3 : B3 G w3 := B3_gb hG g1 (fun e => by injection e with e; have := HW.out; omega)
 have e1 : (List.take 1 (c :: r)).length = 1 := by simp
 rw [e1] at q2 ⊢; have hGl : G < w3.heap.size := Nat.lt_of_lt_of_le hG.hi g1.size; have GL : Hid (G < w3.heap.size) := hGl; clear K hcell q4 e1; have R3 := r1; have G3 : Hid (w.grownBy w3 (some g)) := gb_trans A.out g1; have B3' : Hid (B3 G w3) := hG3; clear hG hG3 g1 hGl hkg A r1; go_wp2_with fail
 refine (KT.out _ R3).mono (fun e w4 he => ?_)
 obtain ⟨vs, v4, rfl, t4, l4, i4, r4, g4⟩ := he; have hG4 : B3 G w4 := B3_gb B3'.out g4 (fun e => by injection e with e; have := HW.out; omega)
 have T4 : Hid (Kx (w3.heap.size ≤ ·) vs v4 w4) := t4; have L4 : Hid (vs.length = ks.length) := l4; have I4 : Hid (∀ j, j < ks.length → Iv (w3.heap.size ≤ ·) w4 (ks.getD j It.no) (vs.getD j n3)) := i4; have G4 : Hid (w.grownBy w4 (some g)) := gb_trans G3.out g4; have R4 : Hid (Rd g R w4) := r4; obtain ⟨a1, cp1, rfl, -⟩ := t4; clear KT R3 g4 r4 B3' G3 l4 i4; obtain ⟨n1, en1⟩ : ∃ n1, n1 = vs.length := ⟨_, rfl⟩; rw [← en1] at T4 ⊢; have LL : vs.length = ks.length := L4.out; clear en1 L4; go_wp2_with (refine wpList_st3 rfl rfl rfl rfl hG4 ?_)
 intro w9 gb9 z0 z1 z2; have G9 : Hid (w.grownBy w9 (some g)) := gb_new G4.out gb9 (by rw [EG.out]; exact Nat.le_refl _)
 have R9 : Hid (Rd g R w9) := Rd_up R4.out gb9 (fun j hj e => by injection e with e; have := HW.out; omega)
 have T9 : Hid (Kx (w.heap.size ≤ ·) vs (.slice a1 n1 cp1) w9) := Kx_mono (Kx_gb T4.out gb9 (fun k hk e => by injection e with e; have := GL.out; omega)) (fun k hk _ => by have := GL.out; have := EG.out; omega)
 have I9 : Hid (∀ j, j < ks.length → Iv (w.heap.size ≤ ·) w9 (ks.getD j It.no) (vs.getD j n3)) := fun j hj => Iv_mono (Iv_gb (I4.out j hj) gb9 (fun k hk e => by injection e with e; have := GL.out; omega)) (fun k hk _ => by have := GL.out; have := EG.out; omega)
 clear T4 G4 R4 I4 gb9 hG4; go_wp2_with fail
 exact bodyPost_ret (v := .agg #[.bool true, .slice none 0 0, .slice a1 n1 cp1]) (resI _ _ _ G 2 _ _ _ rfl rfl z0 z1 z2) rfl ⟨(.bool true, .slice none 0 0, .slice a1 n1 cp1), rfl, .mk _ _ _ _ _ vs (Ty_nil _ _) LL T9.out I9.out, R9.out, G9.out⟩
end Pk
end Go.Proofs.Ytlbdaccmnpcccaa
namespace Go.Proofs.Ytlbdaccmnpcccaa
namespace Pk
open Go.RowKit
theorem text_no (g s : Nat) (b : List UInt8) (hs : s < 64) (hb : b.length ≤ 4194304) (hr : rtx s b = none) (w : World) (h : Rd g b w) :
  Calls Try.prog 63 #[.pointer (some ⟨g, 0, none⟩), .int .u8 (s : Int)] w fun e w' => e = .panicked [{ v := FT, recovered := false }] ∧ w.grownBy w' (some g) := by
 unfold rtx at hr
 split at hr
 ·exact text_no1 g s b hs hb ‹_› w h
 ·split at hr
  ·exact text_no2 g s _ _ b hs hb ‹_› ‹_› w h
  ·split at hr
   ·rename_i h1 h2 h3
    exact text_one g s _ _ b hs hb h1 (by omega) h3.1 h3.2 w h
   ·cases hr
theorem text_ok (g s : Nat) (b T R : List UInt8) (hs : s < 64) (hb : b.length ≤ 4194304) (hr : rtx s b = some (T, R)) (w : World) (h : Rd g b w) :
  Calls Try.prog 63 #[.pointer (some ⟨g, 0, none⟩), .int .u8 (s : Int)] w fun e w' => ∃ v', e = .returned v' ∧ Tx w.heap.size T v' w' ∧ Rd g R w' ∧ w.grownBy w' (some g) := by
 unfold rtx at hr
 split at hr
 ·cases hr
 ·split at hr
  ·cases hr
  ·split at hr
   ·cases hr
   ·rename_i n k h1 h2 h3
    cases hr
    by_cases h4 : n = 1
    ·exact text_high g s n k b hs hb h1 (by omega) h4 (fun h5 => h3 ⟨h4, h5⟩) w h
    ·exact text_more g s n k b hs hb h1 (by omega) h4 w h
theorem item_next (N : Nat) (hN : N < 4194304) (IH : ItemC N) : ItemC (N + 1) := by
 intro b g w hb h; cases b with
 | nil => exact (item_none g w h).mono fun e w' he => ⟨he.2, .inl ⟨rfl, he.1⟩⟩
 | cons c r =>
  simp only [List.length_cons] at hb; have hl : r.length ≤ 4194304 := by omega
  have h8 := c.toNat_lt; by_cases h1 : c.toNat < 128
  ·refine (item_one g c r w h h1).mono fun e w' he => ?_
   obtain ⟨v, e1, e2, e3, e4⟩ := he; refine ⟨e4, .inr ⟨_, _, v, ?_, e1, e2, e3⟩⟩; simp only [ritem, rit, if_pos h1]
  ·by_cases h2 : c.toNat < 192
   ·have ec : ((c.toNat - 128 : Nat) : Int) = (c.toNat : Int) - 128 := by omega
    cases hr : rtx (c.toNat - 128) r with
    | none =>
     refine (item_text_no g c r w h (by omega) h2 (fun w' h' => ec ▸ text_no g _ r (by omega) hl hr w' h')).mono fun e w' he => ⟨he.2, .inl ⟨?_, he.1⟩⟩
     simp only [ritem, rit, if_neg h1, if_pos h2, hr, Option.map_none]
    | some q =>
     refine (item_text q.1 q.2 g c r w h (by omega) h2 (fun w' h' => ec ▸ text_ok g _ r q.1 q.2 (by omega) hl hr w' h')).mono fun e w' he => ?_
     obtain ⟨v, e1, e2, e3, e4⟩ := he; refine ⟨e4, .inr ⟨_, _, v, ?_, e1, e2, e3⟩⟩; simp only [ritem, rit, if_neg h1, if_pos h2, hr, Option.map_some]
   ·have ec : ((c.toNat - 192 : Nat) : Int) = (c.toNat : Int) - 192 := by omega
    have h192 : 192 ≤ c.toNat := by omega
    have hs : c.toNat - 192 < 64 := by omega
    cases hr : rsz (c.toNat - 192) r with
    | none =>
     refine (item_list_no g c r w h h192 (fun w' h' => ec ▸ list_no1 g _ r hs hl hr w' h')).mono fun e w' he => ⟨he.2, .inl ⟨?_, he.1⟩⟩
     simp only [ritem, rit, if_neg h1, if_neg h2, hr]
    | some q =>
     obtain ⟨n, k⟩ := q; by_cases h3 : (r.drop k).length < n
     ·refine (item_list_no g c r w h h192 (fun w' h' => ec ▸ list_no2 g _ n k r hs hl hr h3 w' h')).mono fun e w' he => ⟨he.2, .inl ⟨?_, he.1⟩⟩
      simp only [ritem, rit, if_neg h1, if_neg h2, hr, if_pos h3]
     ·have h4 : n ≤ (r.drop k).length := by omega
      have hrN : r.length ≤ N := by omega
      have hR : ritem (c :: r) = (rkids ((r.drop k).take n)).map fun ks => (.mk true [] ks, (r.drop k).drop n) := by
       simp only [ritem, rit, if_neg h1, if_neg h2, hr, if_neg h3]
      cases hq : rkids ((r.drop k).take n) with
      | none =>
       rw [hq] at hR; refine (item_list_no g c r w h h192 (fun w' h' => ec ▸ (list_go N IH g _ n k r hs hl hrN hr h4 w' h').mono fun e w9 he => ?_)).mono fun e w' he => ⟨he.2, .inl ⟨hR, he.1⟩⟩
       obtain ⟨hg, ⟨_, e1⟩ | ⟨ks, _, _, e1, _⟩⟩ := he
       ·exact ⟨e1, hg⟩
       ·rw [hq] at e1; cases e1
      | some ks =>
       rw [hq] at hR; refine (item_list ks ((r.drop k).drop n) g c r w h h192 (fun w' h' => ec ▸ (list_go N IH g _ n k r hs hl hrN hr h4 w' h').mono fun e w9 he => ?_)).mono fun e w' he => ?_
       ·obtain ⟨hg, ⟨e1, _⟩ | ⟨ks', vs, kv, e1, e2, e3, e4, e5, e6⟩⟩ := he
        ·rw [hq] at e1; cases e1
        ·rw [hq] at e1; cases e1
         exact ⟨vs, kv, e2, e3, e4, e5, e6, hg⟩
       ·obtain ⟨v, e1, e2, e3, e4⟩ := he; exact ⟨e4, .inr ⟨_, _, v, hR, e1, e2, e3⟩⟩
theorem item_all : ∀ N, N ≤ 4194304 → ItemC N
 | 0, _ => fun b g w hb h => by
  have e : b = [] := List.length_eq_zero_iff.1 (by omega); subst e; exact (item_none g w h).mono fun e w' he => ⟨he.2, .inl ⟨rfl, he.1⟩⟩
 | N + 1, h => item_next N (by omega) (item_all N (by omega))
end Pk
end Go.Proofs.Ytlbdaccmnpcccaa
namespace Go.Proofs.Ytlbdaccmnpcccaa
namespace Pk
open Go.RowKit
set_option maxHeartbeats 1000000 in
set_option maxRecDepth 100000 in
theorem catch_idle (a b c : Addr) (w : World) :
  CallsD Try.prog 54 #[.pointer (some a), .pointer (some b), .pointer (some c)] .returning w fun e u' w' => e = .returned (.tuple #[]) ∧ u' = .returning ∧ w' = w := by
 refine callsD_of_wpS Try.func54 rfl fun c₀ cs hu => ?_
 apply wpS_seq
 apply wpS_region
 simp [wpOpsS, go_sem, recoverD, hu, Try.ntmps54, Exit.thenS]
 refine wpS_of_wp ?_; go_wp2_with fail
 cases c₀
 simp_all [bodyPostS, results, Try.results54]
structure B1 (G : Nat) (w : World) : Prop where
 hi : G < w.heap.size
 c : (w.cell? ⟨G, 0, none⟩).isSome = true
 f : w.frozen? ⟨G, 0, none⟩ = false
theorem B1_gb {G : Nat} {w w' : World} {r : Option Nat} (h : B1 G w) (hb : w.grownBy w' r) (hr : some G ≠ r) : B1 G w' := by
 have hbk : w'.heap[G]? = w.heap[G]? := hb.block G h.hi hr; exact ⟨Nat.lt_of_lt_of_le h.hi hb.size, by rw [World.cell?_of_block (a := ⟨G, 0, none⟩) hbk]; exact h.c, (World.frozen?_of_block (a := ⟨G, 0, none⟩) hbk).trans h.f⟩
theorem B1_new (w : World) (v : Value) (ty : TypeId) : B1 w.heap.size (w.alloc (.cells #[v] ty)) := by
 have hn := heap_alloc_new w (.cells #[v] ty); exact ⟨by simp, by simp only [World.cell?, hn]; rfl, by simp only [World.frozen?, hn]; simp⟩
theorem B1_set {G : Nat} {w : World} (h : B1 G w) (v : Value) : B1 G (w.setCell ⟨G, 0, none⟩ v) ∧ (w.setCell ⟨G, 0, none⟩ v).cell? ⟨G, 0, none⟩ = some v := by
 obtain ⟨u, hu⟩ := Option.isSome_iff_exists.1 h.c; have hs := World.cell?_setCell_same w ⟨G, 0, none⟩ v hu; exact ⟨⟨by simpa using h.hi, by rw [hs]; rfl, by rw [World.frozen?_setCell]; exact h.f⟩, hs⟩
theorem cell_gb {G o : Nat} {w w' : World} {r : Option Nat} {v : Value} (h : w.cell? ⟨G, o, none⟩ = some v) (hb : w.grownBy w' r) (hr : some G ≠ r) : w'.cell? ⟨G, o, none⟩ = some v := hb.cell h hr
theorem wp_st3 {op : Oper} {a : Act} {w : World} {K : Act → World → Prop} {Q : Exit → Act → World → Prop} {x y : Operand} {G : Nat} {l : Bool} {a1 a2 : Option Addr} {n1 c1 n2 c2 : Nat} (ho : op.op = .store 59 x y)
  (hx : a.eval x = .pointer (some ⟨G, 0, none⟩)) (hy : a.eval y = .agg #[.bool l, .slice a1 n1 c1, .slice a2 n2 c2]) (hB : B3 G w)
  (h : ∀ w', w.grownBy w' (some G) → B3 G w' → w'.cell? ⟨G, 0, none⟩ = some (.bool l) → w'.cell? ⟨G, 1, none⟩ = some (.slice a1 n1 c1) → w'.cell? ⟨G, 2, none⟩ = some (.slice a2 n2 c2) → K (a.put op.dst undef) w') : op.wp Try.prog a w K Q := by
 have ht : w.there G 0 3 := fun j hj => by rw [Nat.zero_add]; exact ⟨hB.c j hj, hB.f j⟩
 have hs := World.rangeAt_setCells_same w G 0 [.bool l, .slice a1 n1 c1, .slice a2 n2 c2] ht; refine wp_store_mid 59 x y ho G 0 #[.bool l, .slice a1 n1 c1, .slice a2 n2 c2] hx hy ht infoIa (all_oneCell_toArray (cs := [.bool l, .slice a1 n1 c1, .slice a2 n2 c2]) (fun v hv => by simp only [List.mem_cons, List.not_mem_nil, or_false] at hv; rcases hv with rfl | rfl | rfl <;> rfl)) ?_
 have h0 := hs 0 _ rfl; have h1 := hs 1 _ rfl; have h2 := hs 2 _ rfl; have hgb := gb_sets G [.bool l, .slice a1 n1 c1, .slice a2 n2 c2] 0 w; have hfz : ∀ o, (w.setCells G 0 [.bool l, .slice a1 n1 c1, .slice a2 n2 c2]).frozen? ⟨G, o, none⟩ = false := fun o => by
  simp only [World.setCells, World.frozen?_setCell]; exact hB.f o
 refine h _ hgb ⟨Nat.lt_of_lt_of_le hB.hi hgb.size, fun o ho => ?_, hfz⟩ h0 h1 h2
 have : o = 0 ∨ o = 1 ∨ o = 2 := by omega
 rcases this with rfl | rfl | rfl
 ·exact Option.isSome_iff_exists.2 ⟨_, h0⟩
 ·exact Option.isSome_iff_exists.2 ⟨_, h1⟩
 ·exact Option.isSome_iff_exists.2 ⟨_, h2⟩
structure CW (lo a b c f : Nat) (w wx : World) : Prop where
 bl : Below lo w wx
 ha : B3 a wx
 hb : B1 b wx
 hc : B1 c wx
 hf : wx.cell? ⟨f, 0, none⟩ = some (.int .i64 1)
theorem CW_gb {lo a b c f G : Nat} {w w1 w2 : World} (h : CW lo a b c f w w1) (hg : w1.grownBy w2 (some G)) (hlo : lo ≤ G) (hls : lo ≤ w1.heap.size) (h1 : G = a ∧ B3 a w2 ∨ G ≠ a) (h2 : G = b ∧ B1 b w2 ∨ G ≠ b) (h3 : G = c ∧ B1 c w2 ∨ G ≠ c) (h4 : G ≠ f) : CW lo a b c f w w2 := by
 refine ⟨h.bl.trans ⟨hg.os, hg.tape, hg.output, hg.size, fun j hj => hg.block j (by omega) (fun e => by injection e with e; omega)⟩, ?_, ?_, ?_, cell_gb h.hf hg (fun e => by injection e with e; omega)⟩
 ·rcases h1 with h1 | h1
  ·exact h1.2
  ·exact B3_gb h.ha hg (fun e => by injection e with e; omega)
 ·rcases h2 with h1 | h1
  ·exact h1.2
  ·exact B1_gb h.hb hg (fun e => by injection e with e; omega)
 ·rcases h3 with h1 | h1
  ·exact h1.2
  ·exact B1_gb h.hc hg (fun e => by injection e with e; omega)
theorem CW_drew {lo a b c f : Nat} {w w1 : World} (h : CW lo a b c f w w1) : CW lo a b c f w w1.drew :=
 ⟨h.bl.trans ((Below.refl _ _).drew), B3_gb (r := none) h.ha (gb_below (Below.refl _ _).drew) (fun e => by cases e), B1_gb (r := none) h.hb (gb_below (Below.refl _ _).drew) (fun e => by cases e), B1_gb (r := none) h.hc (gb_below (Below.refl _ _).drew) (fun e => by cases e), cell_gb (r := none) h.hf (gb_below (Below.refl _ _).drew) (fun e => by cases e)⟩
def CI (lo a b c f : Nat) (w : World) (X : Value) (d : Nat → Bool) (x : Act) (wx : World) : Prop :=
 ∃ (u12 u13 u14 : Value), x = { tmps := #[.pointer (some ⟨a, 0, none⟩), .pointer (some ⟨b, 0, none⟩), .pointer (some ⟨c, 0, none⟩), undef, .pointer (some ⟨f, 0, none⟩), undef, X, undef, .bool false, .tuple #[.agg #[.int .i64 1], .bool true], .bool true, .agg #[.int .i64 1], u12, u13, u14], defers := [] } ∧ CW lo a b c f w wx ∧ (d 0 = true → u12 = .agg #[.bool false, .slice none 0 0, .slice none 0 0]) ∧ (d 1 = true → u13 = .pointer (some ⟨f, 0, none⟩)) ∧ (d 2 = true → u14 = .int .i64 1) ∧ (d 3 = true → wx.cell? ⟨a, 0, none⟩ = some (.bool false) ∧ wx.cell? ⟨a, 1, none⟩ = some (.slice none 0 0) ∧ wx.cell? ⟨a, 2, none⟩ = some (.slice none 0 0)) ∧ (d 4 = true → wx.cell? ⟨b, 0, none⟩ = some (.int .i64 0)) ∧ (d 5 = true → wx.cell? ⟨c, 0, none⟩ = some (.int .i64 1))
set_option maxHeartbeats 1000000 in
set_option maxRecDepth 100000 in
theorem catch_fault (lo a b c : Nat) (older : List PanicEntry) (w : World) (ha : B3 a w) (hb : B1 b w) (hc : B1 c w) (hla : lo ≤ a) (hlb : lo ≤ b) (hlc : lo ≤ c) (hab : a ≠ b) (hac : a ≠ c) (hbc : b ≠ c) :
  CallsD Try.prog 54 #[.pointer (some ⟨a, 0, none⟩), .pointer (some ⟨b, 0, none⟩), .pointer (some ⟨c, 0, none⟩)] (.panicking ({ v := FT, recovered := false } :: older)) w fun e u' w' => e = .returned (.tuple #[]) ∧ u' = .panicking ({ v := FT, recovered := true } :: older) ∧ Below lo w w' ∧ w'.cell? ⟨a, 0, none⟩ = some (.bool false) ∧ w'.cell? ⟨a, 1, none⟩ = some (.slice none 0 0) ∧ w'.cell? ⟨a, 2, none⟩ = some (.slice none 0 0) ∧ w'.cell? ⟨b, 0, none⟩ = some (.int .i64 0) ∧ w'.cell? ⟨c, 0, none⟩ = some (.int .i64 1) := by
 refine callsD_of_wpS Try.func54 rfl fun c₀ cs hu => ?_
 unfold FT at hu ⊢
 have hta : ∀ (W : World) (v : Value), (Instr.typeAssert (.iface 100 v) 20 100 true).run Try.prog W = .ok (.tuple #[v, .bool true]) W := fun W v => by kernel_rfl
 generalize hX : Value.iface 100 (.agg #[.int .i64 1]) = X at hu ⊢; apply wpS_seq
 apply wpS_region
 simp [wpOpsS, go_sem, recoverD, hu, Try.ntmps54, Exit.thenS]
 have ef : (#[.pointer (some ⟨a, 0, none⟩), .pointer (some ⟨b, 0, none⟩), .pointer (some ⟨c, 0, none⟩)] : Array Value) ++ (Array.replicate 12 undef).setIfInBounds 3 X = #[.pointer (some ⟨a, 0, none⟩), .pointer (some ⟨b, 0, none⟩), .pointer (some ⟨c, 0, none⟩), undef, undef, undef, X, undef, undef, undef, undef, undef, undef, undef, undef] := rfl; rw [ef]; clear ef; subst hX; refine wpS_of_wp ?_; have hbl : Below lo w (w.alloc (.cells #[.int .i64 1] 100)) := (Below.refl _ _).alloc (by have := ha.hi; omega) _
 have hgb := World.grownBy_alloc w (.cells #[.int .i64 1] 100) none; have m0 : CW lo a b c w.heap.size w (w.alloc (.cells #[.int .i64 1] 100)) := ⟨hbl, B3_gb ha hgb (fun e => by cases e), B1_gb hb hgb (fun e => by cases e), B1_gb hc hgb (fun e => by cases e), by
  have hn := heap_alloc_new w (.cells #[.int .i64 1] 100); simp only [World.cell?, hn]; rfl⟩
 have LS : Hid (lo ≤ w.heap.size ∧ a ≠ w.heap.size ∧ b ≠ w.heap.size ∧ c ≠ w.heap.size) := by
  show _ ∧ _
  have := ha.hi; have := hb.hi; have := hc.hi; omega
 have HD : Hid (lo ≤ a ∧ lo ≤ b ∧ lo ≤ c ∧ a ≠ b ∧ a ≠ c ∧ b ≠ c) := ⟨hla, hlb, hlc, hab, hac, hbc⟩; clear ha hb hc hla hlb hlc hab hac hbc hbl hgb; go_upto_region 7 with fail
 generalize w.alloc (.cells #[.int .i64 1] 100) = W1 at m0 ⊢; generalize w.heap.size = f at *; refine RI.wp_region_inv (CI lo a b c f w (.iface 100 (.agg #[.int .i64 1]))) (by kernel_rfl) (by kernel_rfl) ?_ ?_ ?_
 ·exact ⟨undef, undef, undef, rfl, CW_drew m0, nofun, nofun, nofun, nofun, nofun, nofun⟩
 ·clear m0 hta hu; intro d x wx i hI hi hm; obtain ⟨u12, u13, u14, rfl, hw, p0, p1, p2, p3, p4, p5⟩ := hI; have hi' : i = 0 ∨ i = 1 ∨ i = 2 ∨ i = 3 ∨ i = 4 ∨ i = 5 := by simp at hi; omega
  have hd := hm.2; clear hi hm; obtain ⟨l1, l2, l3, l4, l5, l6⟩ := HD.out; obtain ⟨f1, f2, f3, f4⟩ := LS.out; have hsz := hw.ha.hi; rcases hi' with rfl | rfl | rfl | rfl | rfl | rfl
  ·refine RI.wpOp_plain rfl rfl ?_; go_simp; exact ⟨_, u13, u14, rfl, hw, fun _ => rfl, RI.keep (by decide) p1, RI.keep (by decide) p2, RI.keep (by decide) p3, RI.keep (by decide) p4, RI.keep (by decide) p5⟩
  ·refine RI.wpOp_plain rfl rfl ?_; go_simp; exact ⟨u12, _, u14, rfl, hw, RI.keep (by decide) p0, fun _ => rfl, RI.keep (by decide) p2, RI.keep (by decide) p3, RI.keep (by decide) p4, RI.keep (by decide) p5⟩
  ·have hd := hd _ rfl; simp [Region.binds] at hd
   obtain rfl := p1 (by simp [hd]); have c0 := hw.hf; refine RI.wpOp_plain rfl rfl ?_; go_simp; exact ⟨u12, _, _, rfl, hw, RI.keep (by decide) p0, RI.keep (by decide) p1, fun _ => rfl, RI.keep (by decide) p3, RI.keep (by decide) p4, RI.keep (by decide) p5⟩
  ·have hd := hd _ rfl; simp [Region.binds] at hd
   obtain rfl := p0 (by simp [hd]); refine RI.wpOp_plain rfl rfl (wp_st3 rfl rfl rfl hw.ha ?_); intro w' gb' b3 z0 z1 z2; exact ⟨_, u13, u14, rfl, CW_gb hw gb' l1 (by omega) (.inl ⟨rfl, b3⟩) (.inr l4) (.inr l5) f2, RI.keep (by decide) p0, RI.keep (by decide) p1, RI.keep (by decide) p2, fun _ => ⟨z0, z1, z2⟩, RI.keep (by decide) (fun h => cell_gb (p4 h) gb' (fun e => by injection e with e; omega)), RI.keep (by decide) (fun h => cell_gb (p5 h) gb' (fun e => by injection e with e; omega))⟩
  ·obtain ⟨v0, c0⟩ := Option.isSome_iff_exists.1 hw.hb.c; have z := hw.hb.f; have hs := B1_set hw.hb (.int .i64 0); have gb' := gb_set wx b 0 (.int .i64 0); refine RI.wpOp_plain rfl rfl ?_; go_simp; exact ⟨u12, u13, u14, rfl, CW_gb hw gb' l2 (by omega) (.inr (Ne.symm l4)) (.inl ⟨rfl, hs.1⟩) (.inr l6) f3, RI.keep (by decide) p0, RI.keep (by decide) p1, RI.keep (by decide) p2, RI.keep (by decide) (fun h => ⟨cell_gb (p3 h).1 gb' (fun e => by injection e with e; omega), cell_gb (p3 h).2.1 gb' (fun e => by injection e with e; omega), cell_gb (p3 h).2.2 gb' (fun e => by injection e with e; omega)⟩), fun _ => hs.2, RI.keep (by decide) (fun h => cell_gb (p5 h) gb' (fun e => by injection e with e; omega))⟩
  ·have hd := hd _ rfl; simp [Region.binds] at hd
   obtain rfl := p2 (by simp [hd]); obtain ⟨v0, c0⟩ := Option.isSome_iff_exists.1 hw.hc.c; have z := hw.hc.f; have hs := B1_set hw.hc (.int .i64 1); have gb' := gb_set wx c 0 (.int .i64 1); refine RI.wpOp_plain rfl rfl ?_; go_simp; exact ⟨_, _, _, rfl, CW_gb hw gb' l3 (by omega) (.inr (Ne.symm l5)) (.inr (Ne.symm l6)) (.inl ⟨rfl, hs.1⟩) f4, fun _ => rfl, fun _ => rfl, fun _ => rfl, RI.keep (by decide) (fun h => ⟨cell_gb (p3 h).1 gb' (fun e => by injection e with e; omega), cell_gb (p3 h).2.1 gb' (fun e => by injection e with e; omega), cell_gb (p3 h).2.2 gb' (fun e => by injection e with e; omega)⟩), RI.keep (by decide) (fun h => cell_gb (p4 h) gb' (fun e => by injection e with e; omega)), fun _ => hs.2⟩
 ·intro d x wx hI hd; obtain ⟨u12, u13, u14, rfl, hw, p0, p1, p2, p3, p4, p5⟩ := hI; have q3 := p3 (hd 3 (by decide)); have q4 := p4 (hd 4 (by decide)); have q5 := p5 (hd 5 (by decide)); have q6 := hw.bl; clear p0 p1 p2 p3 p4 p5 hd hw m0 HD LS hta hu; simp only [Exit.inBlock]; change bodyPostS Try.prog Try.f54 c₀ cs _ _ _ _ _
  simp [bodyPostS, results, Try.results54, q3, q4, q5, q6]
end Pk
end Go.Proofs.Ytlbdaccmnpcccaa
namespace Go.Proofs.Ytlbdaccmnpcccaa
namespace Pk
open Go.RowKit
theorem sx_of {b : List UInt8} {ao : Option Addr} {cap : Nat} {w : World} (h : Sl b (.slice ao b.length cap) w) (hc : (cap : Int) ≤ 9223372036854775807) : Sx w.heap.size b (.slice ao b.length cap) w := by
 obtain ⟨ao', cap', e, h2, h3⟩ := h; injection e with e1 e2 e3
 subst e1 e3; refine ⟨ao, cap, rfl, h2, hc, fun h0 => ?_⟩
 obtain ⟨k, off, x1, x2, x3⟩ := h3 h0; exact ⟨k, off, x1, x2, x2, x3⟩
structure R0 (h : Nat) (b : List UInt8) (w W : World) : Prop where
 x : B3 h W
 y : B1 (h + 1) W
 z : B1 (h + 1 + 1) W
 r : Rd (h + 1 + 1 + 1) b W
 l : Below h w W
theorem r0_new (b : List UInt8) (ao : Option Addr) (cap : Nat) (w : World) (hc : (cap : Int) ≤ 9223372036854775807) (h : Sl b (.slice ao b.length cap) w) : R0 w.heap.size b w ((((w.alloc (.cells #[.bool false, .slice none 0 0, .slice none 0 0] 59)).alloc (.cells #[.int .i64 0] 3)).alloc (.cells #[.int .i64 0] 26)).alloc (.cells #[.slice ao b.length cap] 102)) := by
 have s1 : (w.alloc (.cells #[.bool false, .slice none 0 0, .slice none 0 0] 59)).heap.size = w.heap.size + 1 := by simp
 have x1 := B3_new w; have b1 : Below w.heap.size w (w.alloc (.cells #[.bool false, .slice none 0 0, .slice none 0 0] 59)) := (Below.refl _ _).alloc (Nat.le_refl _) _; generalize w.alloc (.cells #[.bool false, .slice none 0 0, .slice none 0 0] 59) = w1 at *; have s2 : (w1.alloc (.cells #[.int .i64 0] 3)).heap.size = w1.heap.size + 1 := by simp
 have y2 := B1_new w1 (.int .i64 0) 3; have g2 := World.grownBy_alloc w1 (.cells #[.int .i64 0] 3) none; have b2 := b1.alloc (o := .cells #[.int .i64 0] 3) b1.size; generalize w1.alloc (.cells #[.int .i64 0] 3) = w2 at *; have s3 : (w2.alloc (.cells #[.int .i64 0] 26)).heap.size = w2.heap.size + 1 := by simp
 have z3 := B1_new w2 (.int .i64 0) 26; have g3 := World.grownBy_alloc w2 (.cells #[.int .i64 0] 26) none; have b3 := b2.alloc (o := .cells #[.int .i64 0] 26) b2.size; generalize w2.alloc (.cells #[.int .i64 0] 26) = w3 at *; have r4 := rd_new (sx_of (Sl_below h b3) hc) 102; have g4 := World.grownBy_alloc w3 (.cells #[.slice ao b.length cap] 102) none; have b4 := b3.alloc (o := .cells #[.slice ao b.length cap] 102) b3.size; generalize w3.alloc (.cells #[.slice ao b.length cap] 102) = w4 at *; rw [s3, s2, s1] at r4; rw [s1] at y2; rw [s2, s1] at z3; exact ⟨B3_gb (B3_gb (B3_gb x1 g2 nofun) g3 nofun) g4 nofun, B1_gb (B1_gb y2 g3 nofun) g4 nofun, B1_gb z3 g4 nofun, r4, b4⟩
set_option maxHeartbeats 1000000 in
set_option maxRecDepth 100000 in
theorem read_no (b : List UInt8) (ao : Option Addr) (cap : Nat) (w : World) (hb : b.length ≤ 4194304) (hc : (cap : Int) ≤ 9223372036854775807) (h : Sl b (.slice ao b.length cap) w) (hr : ritem b = none) :
  Calls Try.prog 41 #[.slice ao b.length cap] w fun e w' => e = .returned (.tuple #[.agg #[.bool false, .slice none 0 0, .slice none 0 0], .int .i64 0, .int .i64 1]) ∧ Below w.heap.size w w' := by
 have hmf : ∀ (fn : Fn) (first cap : Array Value) (w : World), (Instr.makeFunc fn first cap).run Try.prog w = .ok (.func fn first cap) w := fun _ _ _ _ => rfl
 have r0 := r0_new b ao cap w hc h; have KI : Hid (∀ (g : Nat) (w : World), Rd g b w → Calls Try.prog 55 #[.pointer (some ⟨g, 0, none⟩)] w fun e w' => w.grownBy w' (some g) ∧ e = .panicked [{ v := FT, recovered := false }]) := fun g w h => (item_all _ (Nat.le_refl _) b g w hb h).mono fun e w' he => by
  obtain ⟨h1, ⟨_, h2⟩ | ⟨t, r, v, h2, _⟩⟩ := he
  ·exact ⟨h1, h2⟩
  ·rw [hr] at h2; cases h2
 clear hb hc h hr; go_enter_defers Try.func41, Try.ntmps41
 go_upto_region 3 with fail
 generalize ((((w.alloc (.cells #[.bool false, .slice none 0 0, .slice none 0 0] 59)).alloc (.cells #[.int .i64 0] 3)).alloc (.cells #[.int .i64 0] 26)).alloc (.cells #[.slice ao b.length cap] 102)) = W4 at r0 ⊢; obtain ⟨h, eh⟩ : ∃ h, h = w.heap.size := ⟨_, rfl⟩; have EH : Hid (h = w.heap.size) := eh; rw [← eh] at r0 ⊢; clear eh; go_wp2_with fail
 refine (KI.out _ _ r0.r).mono (fun e w5 he => ?_)
 obtain ⟨g5, rfl⟩ := he; have x5 := B3_gb r0.x g5 (fun e => by injection e with e; omega)
 have y5 := B1_gb r0.y g5 (fun e => by injection e with e; omega)
 have z5 := B1_gb r0.z g5 (fun e => by injection e with e; omega)
 have l5 : Below h w w5 := r0.l.trans ⟨g5.os, g5.tape, g5.output, g5.size, fun j hj => g5.block j (by have := r0.r.hi; omega) (fun e => by injection e with e; omega)⟩
 clear KI r0 g5; refine leaves_cons (f := 54) (args := #[.pointer (some ⟨h, 0, none⟩), .pointer (some ⟨h + 1, 0, none⟩), .pointer (some ⟨h + 1 + 1, 0, none⟩)]) (by simp) (by simp [go_sem]) ?_; refine (catch_fault h _ _ _ [] _ x5 y5 z5 (by omega) (by omega) (by omega) (by omega) (by omega) (by omega)).mono ?_; rintro e u' w6 ⟨rfl, rfl, l6, q1, q2, q3, q4, q5⟩; have L6 : Below h w w6 := l5.trans l6; simp [Leaves, settle, results, Try.results41, go_sem, q1, q2, q3, q4, q5]
 rw [← EH.out]; exact L6
structure RA (h m cap2 : Nat) (ao2 : Option Addr) (t : It) (l : Bool) (a1 a2 : Option Addr) (n1 p1 n2 p2 : Nat) (w wx : World) : Prop where
 bl : Below h w wx
 x : B3 h wx
 y : B1 (h + 1) wx
 z : B1 (h + 1 + 1) wx
 c0 : wx.cell? ⟨h, 0, none⟩ = some (.bool l)
 c1 : wx.cell? ⟨h, 1, none⟩ = some (.slice a1 n1 p1)
 c2 : wx.cell? ⟨h, 2, none⟩ = some (.slice a2 n2 p2)
 r : wx.cell? ⟨h + 1 + 1 + 1, 0, none⟩ = some (.slice ao2 m cap2)
 i : Iv (h + 1 + 1 + 1 + 1 ≤ ·) wx t (.bool l, .slice a1 n1 p1, .slice a2 n2 p2)
theorem RA_drew {h m cap2 : Nat} {ao2 : Option Addr} {t : It} {l : Bool} {a1 a2 : Option Addr} {n1 p1 n2 p2 : Nat} {w w1 : World} (k : RA h m cap2 ao2 t l a1 a2 n1 p1 n2 p2 w w1) : RA h m cap2 ao2 t l a1 a2 n1 p1 n2 p2 w w1.drew := by
 have g : w1.grownBy w1.drew none := gb_below (Below.refl _ _).drew; exact ⟨k.bl.trans (Below.refl _ _).drew, B3_gb k.x g nofun, B1_gb k.y g nofun, B1_gb k.z g nofun, cell_gb k.c0 g nofun, cell_gb k.c1 g nofun, cell_gb k.c2 g nofun, cell_gb k.r g nofun, Iv_gb k.i g (fun _ _ => nofun)⟩
theorem RA_x {h m cap2 : Nat} {ao2 : Option Addr} {t : It} {l : Bool} {a1 a2 : Option Addr} {n1 p1 n2 p2 : Nat} {w w1 w2 : World} (k : RA h m cap2 ao2 t l a1 a2 n1 p1 n2 p2 w w1) (g : w1.grownBy w2 (some h)) (b3 : B3 h w2) (z0 : w2.cell? ⟨h, 0, none⟩ = some (.bool l)) (z1 : w2.cell? ⟨h, 1, none⟩ = some (.slice a1 n1 p1)) (z2 : w2.cell? ⟨h, 2, none⟩ = some (.slice a2 n2 p2)) : RA h m cap2 ao2 t l a1 a2 n1 p1 n2 p2 w w2 :=
 ⟨k.bl.trans ⟨g.os, g.tape, g.output, g.size, fun j hj => g.block j (by have := k.x.hi; omega) (fun e => by injection e with e; omega)⟩, b3, B1_gb k.y g (fun e => by injection e with e; omega), B1_gb k.z g (fun e => by injection e with e; omega), z0, z1, z2, cell_gb k.r g (fun e => by injection e with e; omega), Iv_gb k.i g (fun j hj e => by injection e with e; omega)⟩
theorem RA_y {h m cap2 G : Nat} {ao2 : Option Addr} {t : It} {l : Bool} {a1 a2 : Option Addr} {n1 p1 n2 p2 : Nat} {w w1 w2 : World} (k : RA h m cap2 ao2 t l a1 a2 n1 p1 n2 p2 w w1) (g : w1.grownBy w2 (some G)) (hG : G = h + 1 ∨ G = h + 1 + 1) (hy : B1 (h + 1) w2) (hz : B1 (h + 1 + 1) w2) : RA h m cap2 ao2 t l a1 a2 n1 p1 n2 p2 w w2 :=
 ⟨k.bl.trans ⟨g.os, g.tape, g.output, g.size, fun j hj => g.block j (by have := k.x.hi; omega) (fun e => by injection e with e; omega)⟩, B3_gb k.x g (fun e => by injection e with e; omega), hy, hz, cell_gb k.c0 g (fun e => by injection e with e; omega), cell_gb k.c1 g (fun e => by injection e with e; omega), cell_gb k.c2 g (fun e => by injection e with e; omega), cell_gb k.r g (fun e => by injection e with e; omega), Iv_gb k.i g (fun j hj e => by injection e with e; omega)⟩
def CR (n cap h m cap2 : Nat) (ao ao2 : Option Addr) (t : It) (l : Bool) (a1 a2 : Option Addr) (n1 p1 n2 p2 : Nat) (w : World) (d : Nat → Bool) (x : Act) (wx : World) : Prop :=
 ∃ (u10 u11 u12 u13 u14 u15 u16 : Value), x = { tmps := #[.slice ao n cap, undef, .pointer (some ⟨h, 0, none⟩), .pointer (some ⟨h + 1, 0, none⟩), .pointer (some ⟨h + 1 + 1, 0, none⟩), .pointer (some ⟨h + 1 + 1 + 1, 0, none⟩), .func (.func 54) #[] #[.pointer (some ⟨h, 0, none⟩), .pointer (some ⟨h + 1, 0, none⟩), .pointer (some ⟨h + 1 + 1, 0, none⟩)], .slice ao n cap, .agg #[.slice ao n cap], .agg #[.bool l, .slice a1 n1 p1, .slice a2 n2 p2], u10, u11, u12, u13, u14, u15, u16], defers := [{ target := .fn (.func 54) #[.pointer (some ⟨h, 0, none⟩), .pointer (some ⟨h + 1, 0, none⟩), .pointer (some ⟨h + 1 + 1, 0, none⟩)], args := #[] }] } ∧ RA h m cap2 ao2 t l a1 a2 n1 p1 n2 p2 w wx ∧ (d 0 = true → u10 = .agg #[.bool l, .slice a1 n1 p1, .slice a2 n2 p2]) ∧ (d 1 = true → u11 = .slice ao n cap) ∧ (d 2 = true → u12 = .int .i64 (n : Int)) ∧ (d 3 = true → u13 = .pointer (some ⟨h + 1 + 1 + 1, 0, none⟩)) ∧ (d 4 = true → u14 = .slice ao2 m cap2) ∧ (d 5 = true → u15 = .int .i64 (m : Int)) ∧ (d 6 = true → u16 = .int .i64 ((n : Int) - m)) ∧ (d 8 = true → wx.cell? ⟨h + 1, 0, none⟩ = some (.int .i64 ((n : Int) - m))) ∧ (d 9 = true → wx.cell? ⟨h + 1 + 1, 0, none⟩ = some (.int .i64 0))
theorem wpList_st3b {ops : Array Oper} {rest : List Oper} {op : Oper} {a : Act} {w : World} {Q : Exit → Act → World → Prop} {x y : Operand} {G : Nat} {l : Bool} {a1 a2 : Option Addr} {n1 c1 n2 c2 : Nat} (hgd : op.guard = none) (ho : op.op = .store 59 x y)
  (hx : a.eval x = .pointer (some ⟨G, 0, none⟩)) (hy : a.eval y = .agg #[.bool l, .slice a1 n1 c1, .slice a2 n2 c2]) (hB : B3 G w)
  (h : ∀ w', w.grownBy w' (some G) → B3 G w' → w'.cell? ⟨G, 0, none⟩ = some (.bool l) → w'.cell? ⟨G, 1, none⟩ = some (.slice a1 n1 c1) → w'.cell? ⟨G, 2, none⟩ = some (.slice a2 n2 c2) → wpList Try.prog ops Q rest (a.put op.dst undef) w') : wpList Try.prog ops Q (op :: rest) a w :=
 wpList_plain hgd fun _ hK => wp_st3 ho hx hy hB (fun w' g b3 z0 z1 z2 => hK _ _ (h w' g b3 z0 z1 z2))
set_option maxHeartbeats 1000000 in
set_option maxRecDepth 100000 in
theorem read_ok (b : List UInt8) (ao : Option Addr) (cap : Nat) (w : World) (t : It) (r : List UInt8) (hb : b.length ≤ 4194304) (hc : (cap : Int) ≤ 9223372036854775807) (h : Sl b (.slice ao b.length cap) w) (hr : ritem b = some (t, r)) :
  Calls Try.prog 41 #[.slice ao b.length cap] w fun e w' => ∃ v, e = .returned (.tuple #[v3 v, .int .i64 ((b.length : Int) - r.length), .int .i64 0]) ∧ Iv (w.heap.size ≤ ·) w' t v ∧ Below w.heap.size w w' := by
 have hmf : ∀ (fn : Fn) (first cap : Array Value) (w : World), (Instr.makeFunc fn first cap).run Try.prog w = .ok (.func fn first cap) w := fun _ _ _ _ => rfl
 have r0 := r0_new b ao cap w hc h; have KI : Hid (∀ (g : Nat) (w : World), Rd g b w → Calls Try.prog 55 #[.pointer (some ⟨g, 0, none⟩)] w fun e w' => w.grownBy w' (some g) ∧ ∃ v, e = .returned (v3 v) ∧ Iv (w.heap.size ≤ ·) w' t v ∧ Rd g r w') := fun g w h => (item_all _ (Nat.le_refl _) b g w hb h).mono fun e w' he => by
  obtain ⟨h1, ⟨h2, _⟩ | ⟨t', r', v, h2, h3, h4, h5⟩⟩ := he
  ·rw [hr] at h2; cases h2
  ·rw [hr] at h2; cases h2
   exact ⟨h1, v, h3, h4, h5⟩
 have hsh := ritem_shorter hr; have D0 : Hid (IntKind.i64.wrap ((b.length : Int) - (r.length : Int)) = (b.length : Int) - r.length) := by show _ = _; rw [IntKind.wrap_i64]; omega
 have D1 : Hid (wrap64 ((b.length : Int) - (r.length : Int)) = (b.length : Int) - r.length) := by show _ = _; unfold wrap64; omega
 clear hb hc h hr hsh; go_enter_defers Try.func41, Try.ntmps41
 go_upto_region 3 with fail
 generalize ((((w.alloc (.cells #[.bool false, .slice none 0 0, .slice none 0 0] 59)).alloc (.cells #[.int .i64 0] 3)).alloc (.cells #[.int .i64 0] 26)).alloc (.cells #[.slice ao b.length cap] 102)) = W4 at r0 ⊢; obtain ⟨h, eh⟩ : ∃ h, h = w.heap.size := ⟨_, rfl⟩; have EH : Hid (h = w.heap.size) := eh; rw [← eh] at r0 ⊢; clear eh; have hS : h + 1 + 1 + 1 + 1 ≤ W4.heap.size := by have := r0.r.hi; omega
 go_wp2_with fail
 refine (KI.out _ _ r0.r).mono (fun e w5 he => ?_)
 obtain ⟨g5, v, rfl, iv, rd⟩ := he; have x5 := B3_gb r0.x g5 (fun e => by injection e with e; omega)
 have y5 := B1_gb r0.y g5 (fun e => by injection e with e; omega)
 have z5 := B1_gb r0.z g5 (fun e => by injection e with e; omega)
 have l5 : Below h w w5 := r0.l.trans ⟨g5.os, g5.tape, g5.output, g5.size, fun j hj => g5.block j (by have := r0.r.hi; omega) (fun e => by injection e with e; omega)⟩
 obtain ⟨vr, c9, ao2, cap2, rfl, -⟩ := rd.s; obtain ⟨l, a1, n1, p1, a2, n2, p2, rfl⟩ := Iv_form iv; have iv5 := Iv_mono (S' := (h + 1 + 1 + 1 + 1 ≤ ·)) iv (fun k hk _ => Nat.le_trans hS hk)
 clear KI r0 g5 rd iv hS; generalize hm : r.length = m at *; have EM : Hid (r.length = m) := hm; clear hm; generalize hn : b.length = n at *; have EN : Hid (b.length = n) := hn; clear hn; dsimp only [v3]; go_wp2_with (refine wpList_st3b rfl rfl rfl rfl x5 ?_)
 intro w6 g6 b6 z0 z1 z2; have m6 : RA h m cap2 ao2 t l a1 a2 n1 p1 n2 p2 w w6 := by
  have hE : ∀ k, k ≠ h → (some k : Option Nat) ≠ some h := fun k hk e => hk (by injection e)
  exact ⟨l5.trans ⟨g6.os, g6.tape, g6.output, g6.size, fun j hj => g6.block j (by have := x5.hi; omega) (hE _ (by omega))⟩, b6, B1_gb y5 g6 (hE _ (by omega)), B1_gb z5 g6 (hE _ (by omega)), z0, z1, z2, cell_gb c9 g6 (hE _ (by omega)), Iv_gb iv5 g6 (fun k hk => hE k (by omega))⟩
 clear x5 y5 z5 l5 c9 iv5 g6 b6 z0 z1 z2; go_upto_region 4 with fail
 refine RI.wp_region_inv (CR n cap h m cap2 ao ao2 t l a1 a2 n1 p1 n2 p2 w) (by kernel_rfl) (by kernel_rfl) ?_ ?_ ?_
 ·exact ⟨undef, undef, undef, undef, undef, undef, undef, rfl, RA_drew m6, nofun, nofun, nofun, nofun, nofun, nofun, nofun, nofun, nofun⟩
 ·clear m6 hmf; intro d x wx i hI hi hm; obtain ⟨u10, u11, u12, u13, u14, u15, u16, rfl, hw, q0, q1, q2, q3, q4, q5, q6, q8, q9⟩ := hI; have hi' : i = 0 ∨ i = 1 ∨ i = 2 ∨ i = 3 ∨ i = 4 ∨ i = 5 ∨ i = 6 ∨ i = 7 ∨ i = 8 ∨ i = 9 := by simp at hi; omega
  have hd := hm.2; clear hi hm; rcases hi' with rfl | rfl | rfl | rfl | rfl | rfl | rfl | rfl | rfl | rfl
  ·have e0 := hw.c0; have e1 := hw.c1; have e2 := hw.c2; refine RI.wpOp_plain rfl rfl ?_; go_simp; exact ⟨_, u11, u12, u13, u14, u15, u16, rfl, hw, fun _ => rfl, RI.keep (by decide) q1, RI.keep (by decide) q2, RI.keep (by decide) q3, RI.keep (by decide) q4, RI.keep (by decide) q5, RI.keep (by decide) q6, RI.keep (by decide) q8, RI.keep (by decide) q9⟩
  ·refine RI.wpOp_plain rfl rfl ?_; go_simp; exact ⟨u10, _, u12, u13, u14, u15, u16, rfl, hw, RI.keep (by decide) q0, fun _ => rfl, RI.keep (by decide) q2, RI.keep (by decide) q3, RI.keep (by decide) q4, RI.keep (by decide) q5, RI.keep (by decide) q6, RI.keep (by decide) q8, RI.keep (by decide) q9⟩
  ·have hd := hd _ rfl; simp [Region.binds] at hd
   obtain rfl := q1 (by simp [hd]); refine RI.wpOp_plain rfl rfl ?_; go_simp; exact ⟨u10, _, _, u13, u14, u15, u16, rfl, hw, RI.keep (by decide) q0, RI.keep (by decide) q1, fun _ => rfl, RI.keep (by decide) q3, RI.keep (by decide) q4, RI.keep (by decide) q5, RI.keep (by decide) q6, RI.keep (by decide) q8, RI.keep (by decide) q9⟩
  ·refine RI.wpOp_plain rfl rfl ?_; go_simp; exact ⟨u10, u11, u12, _, u14, u15, u16, rfl, hw, RI.keep (by decide) q0, RI.keep (by decide) q1, RI.keep (by decide) q2, fun _ => rfl, RI.keep (by decide) q4, RI.keep (by decide) q5, RI.keep (by decide) q6, RI.keep (by decide) q8, RI.keep (by decide) q9⟩
  ·have hd := hd _ rfl; simp [Region.binds] at hd
   obtain rfl := q3 (by simp [hd]); have e0 := hw.r; refine RI.wpOp_plain rfl rfl ?_; go_simp; exact ⟨u10, u11, u12, _, _, u15, u16, rfl, hw, RI.keep (by decide) q0, RI.keep (by decide) q1, RI.keep (by decide) q2, RI.keep (by decide) q3, fun _ => rfl, RI.keep (by decide) q5, RI.keep (by decide) q6, RI.keep (by decide) q8, RI.keep (by decide) q9⟩
  ·have hd := hd _ rfl; simp [Region.binds] at hd
   obtain rfl := q4 (by simp [hd]); refine RI.wpOp_plain rfl rfl ?_; go_simp; exact ⟨u10, u11, u12, u13, _, _, u16, rfl, hw, RI.keep (by decide) q0, RI.keep (by decide) q1, RI.keep (by decide) q2, RI.keep (by decide) q3, RI.keep (by decide) q4, fun _ => rfl, RI.keep (by decide) q6, RI.keep (by decide) q8, RI.keep (by decide) q9⟩
  ·have hd := hd _ rfl; simp [Region.binds] at hd
   obtain rfl := q2 (by simp [hd]); obtain rfl := q5 (by simp [hd]); have e0 := D0.out; have e1 := D1.out; refine RI.wpOp_plain rfl rfl ?_; go_simp; exact ⟨u10, u11, _, u13, u14, _, _, rfl, hw, RI.keep (by decide) q0, RI.keep (by decide) q1, RI.keep (by decide) q2, RI.keep (by decide) q3, RI.keep (by decide) q4, RI.keep (by decide) q5, fun _ => rfl, RI.keep (by decide) q8, RI.keep (by decide) q9⟩
  ·have hd := hd _ rfl; simp [Region.binds] at hd
   obtain rfl := q0 (by simp [hd]); refine RI.wpOp_plain rfl rfl (wp_st3 rfl rfl rfl hw.x ?_); intro w' gb' b3 z0 z1 z2; exact ⟨_, u11, u12, u13, u14, u15, u16, rfl, RA_x hw gb' b3 z0 z1 z2, RI.keep (by decide) q0, RI.keep (by decide) q1, RI.keep (by decide) q2, RI.keep (by decide) q3, RI.keep (by decide) q4, RI.keep (by decide) q5, RI.keep (by decide) q6, RI.keep (by decide) (fun k => cell_gb (q8 k) gb' (fun e => by injection e with e; omega)), RI.keep (by decide) (fun k => cell_gb (q9 k) gb' (fun e => by injection e with e; omega))⟩
  ·have hd := hd _ rfl; simp [Region.binds] at hd
   obtain rfl := q6 (by simp [hd]); clear hd; obtain ⟨v0, e0⟩ := Option.isSome_iff_exists.1 hw.y.c; have z := hw.y.f; have hs := B1_set hw.y (.int .i64 ((n : Int) - m)); have gb' := gb_set wx (h + 1) 0 (.int .i64 ((n : Int) - m)); refine RI.wpOp_plain rfl rfl ?_; go_simp; exact ⟨u10, u11, u12, u13, u14, u15, _, rfl, RA_y hw gb' (.inl rfl) hs.1 (B1_gb hw.z gb' (fun e => by injection e with e; omega)), RI.keep (by decide) q0, RI.keep (by decide) q1, RI.keep (by decide) q2, RI.keep (by decide) q3, RI.keep (by decide) q4, RI.keep (by decide) q5, RI.keep (by decide) q6, fun _ => hs.2, RI.keep (by decide) (fun k => cell_gb (q9 k) gb' (fun e => by injection e with e; omega))⟩
  ·obtain ⟨v0, e0⟩ := Option.isSome_iff_exists.1 hw.z.c; have z := hw.z.f; have hs := B1_set hw.z (.int .i64 0); have gb' := gb_set wx (h + 1 + 1) 0 (.int .i64 0); refine RI.wpOp_plain rfl rfl ?_; go_simp; exact ⟨u10, u11, u12, u13, u14, u15, u16, rfl, RA_y hw gb' (.inr rfl) (B1_gb hw.y gb' (fun e => by injection e with e; omega)) hs.1, RI.keep (by decide) q0, RI.keep (by decide) q1, RI.keep (by decide) q2, RI.keep (by decide) q3, RI.keep (by decide) q4, RI.keep (by decide) q5, RI.keep (by decide) q6, RI.keep (by decide) (fun k => cell_gb (q8 k) gb' (fun e => by injection e with e; omega)), fun _ => hs.2⟩
 ·intro d x wx hI hd; obtain ⟨u10, u11, u12, u13, u14, u15, u16, rfl, hw, q0, q1, q2, q3, q4, q5, q6, q8, q9⟩ := hI; have e3 := q8 (hd 8 (by decide)); have e4 := q9 (hd 9 (by decide)); clear q0 q1 q2 q3 q4 q5 q6 q8 q9 hd m6; go_wp2_with fail
  have f0 := hw.c0; have f1 := hw.c1; have f2 := hw.c2; refine leaves_cons (f := 54) (args := #[.pointer (some ⟨h, 0, none⟩), .pointer (some ⟨h + 1, 0, none⟩), .pointer (some ⟨h + 1 + 1, 0, none⟩)]) (by simp) (by simp [go_sem]) ?_; refine (catch_idle _ _ _ _).mono ?_; rintro e u' w7 ⟨rfl, rfl, rfl⟩; have fin : ∃ v : V3, (.returned (.tuple #[.agg #[.bool l, .slice a1 n1 p1, .slice a2 n2 p2], .int .i64 ((n : Int) - m), .int .i64 0]) : Ending) = .returned (.tuple #[v3 v, .int .i64 ((b.length : Int) - r.length), .int .i64 0]) ∧ Iv (w.heap.size ≤ ·) w7 t v ∧ Below w.heap.size w w7 := by
   refine ⟨(.bool l, .slice a1 n1 p1, .slice a2 n2 p2), by rw [EM.out, EN.out]; rfl, Iv_mono hw.i (fun k hk _ => by have := EH.out; omega), by rw [← EH.out]; exact hw.bl⟩
  clear EM EN EH D0 D1 hw; generalize (b.length : Int) = bl at *; generalize (r.length : Int) = rl at *; simpa [Leaves, settle, results, Try.results41, go_sem, e3, e4, f0, f1, f2] using fin
end Pk
end Go.Proofs.Ytlbdaccmnpcccaa
namespace Go.Proofs.Ytlbdaccmnpcccaa
namespace Pk
open Go.RowKit
def sp (b : List UInt8) : It × Int × Int :=
 match ritem b with
 | none => (It.no, 0, 1)
 | some (t, r) => (t, (b.length : Int) - r.length, 0)
theorem read_any (b : List UInt8) (ao : Option Addr) (cap : Nat) (w : World) (hb : b.length ≤ 4194304) (hc : (cap : Int) ≤ 9223372036854775807) (h : Sl b (.slice ao b.length cap) w) :
  Calls Try.prog 41 #[.slice ao b.length cap] w fun e w' => ∃ v, e = .returned (.tuple #[v3 v, .int .i64 (sp b).2.1, .int .i64 (sp b).2.2]) ∧ Iv (w.heap.size ≤ ·) w' (sp b).1 v ∧ Below w.heap.size w w' := by
 cases hr : ritem b with
 | none =>
  have e : sp b = (It.no, 0, 1) := by unfold sp; rw [hr]
  rw [e]; exact (read_no b ao cap w hb hc h hr).mono fun e w' he => ⟨(.bool false, .slice none 0 0, .slice none 0 0), he.1, .mk _ _ _ _ _ [] (Ty_nil _ _) rfl (Kx_nil _ _) (fun j hj => absurd hj (by simp)), he.2⟩
 | some q =>
  have e : sp b = (q.1, (b.length : Int) - q.2.length, 0) := by unfold sp; rw [hr]
  rw [e]; exact read_ok b ao cap w q.1 q.2 hb hc h hr
theorem resI3 (f : Func) (tm : Array Value) (W : World) (g s s1 s2 : Nat) (p q r x y : Value) (hf : f.results = #[.cell s 59, .tmp s1, .tmp s2]) (h : tm.getD s undef = .pointer (some ⟨g, 0, none⟩)) (h1 : tm.getD s1 undef = x) (h2 : tm.getD s2 undef = y) (c0 : W.cell? ⟨g, 0, none⟩ = some p) (c1 : W.cell? ⟨g, 1, none⟩ = some q) (c2 : W.cell? ⟨g, 2, none⟩ = some r) : (results f tm).run Try.prog W = .ok (.tuple #[.agg #[p, q, r], x, y]) W := by
 simp at h h1 h2
 simp [results, hf, go_sem, h, h1, h2, c0, c1, c2]
end Pk
end Go.Proofs.Ytlbdaccmnpcccaa
namespace Go.Proofs.Ytlbdaccmnpcccaa
namespace Pk
open Go.RowKit
def dc (b : List UInt8) : It × Int :=
 match ritem b with
 | none => (It.no, 1)
 | some (t, r) => if r.length = 0 then (t, 0) else (It.no, 1)
theorem resI2 (f : Func) (tm : Array Value) (W : World) (g s s1 : Nat) (p q r x : Value) (hf : f.results = #[.cell s 59, .tmp s1]) (h : tm.getD s undef = .pointer (some ⟨g, 0, none⟩)) (h1 : tm.getD s1 undef = x) (c0 : W.cell? ⟨g, 0, none⟩ = some p) (c1 : W.cell? ⟨g, 1, none⟩ = some q) (c2 : W.cell? ⟨g, 2, none⟩ = some r) : (results f tm).run Try.prog W = .ok (.tuple #[.agg #[p, q, r], x]) W := by
 simp at h h1
 simp [results, hf, go_sem, h, h1, c0, c1, c2]
set_option maxHeartbeats 1000000 in
set_option maxRecDepth 100000 in
theorem decode_bad (t : It) (k c : Int) (n cap : Nat) (ao : Option Addr) (w : World) (hc : c = 1)
  (KR : Hid (Calls Try.prog 41 #[.slice ao n cap] (w.alloc (.cells #[.bool false, .slice none 0 0, .slice none 0 0] 59)) fun e w' => ∃ v, e = .returned (.tuple #[v3 v, .int .i64 k, .int .i64 c]) ∧ Iv ((w.alloc (.cells #[.bool false, .slice none 0 0, .slice none 0 0] 59)).heap.size ≤ ·) w' t v ∧ Below (w.alloc (.cells #[.bool false, .slice none 0 0, .slice none 0 0] 59)).heap.size (w.alloc (.cells #[.bool false, .slice none 0 0, .slice none 0 0] 59)) w')) :
  Calls Try.prog 30 #[.slice ao n cap] w fun e w' => ∃ v, e = .returned (.tuple #[v3 v, .int .i64 c]) ∧ Iv (w.heap.size ≤ ·) w' t v ∧ Below w.heap.size w w' := by
 have x0 := B3_new w; have l0 : Below w.heap.size w (w.alloc (.cells #[.bool false, .slice none 0 0, .slice none 0 0] 59)) := (Below.refl _ _).alloc (Nat.le_refl _) _; subst hc; go_enter Try.func30, Try.ntmps30
 go_upto_region 1 with fail
 generalize w.alloc (.cells #[.bool false, .slice none 0 0, .slice none 0 0] 59) = W0 at *; obtain ⟨h, eh⟩ : ∃ h, h = w.heap.size := ⟨_, rfl⟩; have EH : Hid (h = w.heap.size) := eh; rw [← eh] at x0 l0 ⊢; clear eh; go_wp2_with fail
 refine KR.out.mono (fun e w1 he => ?_)
 obtain ⟨v, rfl, iv, b1⟩ := he; have hx := x0.hi; obtain ⟨l, a1, n1, p1, a2, n2, p2, rfl⟩ := Iv_form iv; have x1 : B3 h w1 := B3_gb (r := none) x0 (gb_below b1) nofun; have l1 : Below h w w1 := l0.trans (b1.mono (by omega)); have iv1 := Iv_mono (S' := (h + 1 ≤ ·)) iv (fun k hk _ => Nat.le_trans hx hk)
 clear KR x0 l0 iv b1 hx; have hh : h < w1.heap.size := x1.hi; have gA := World.grownBy_alloc w1 (.cells #[.bool l, .slice a1 n1 p1, .slice a2 n2 p2] 59) none; have x2 : B3 h (w1.alloc (.cells #[.bool l, .slice a1 n1 p1, .slice a2 n2 p2] 59)) := B3_gb x1 gA nofun; have hn := heap_alloc_new w1 (.cells #[.bool l, .slice a1 n1 p1, .slice a2 n2 p2] 59); have e0 : (w1.alloc (.cells #[.bool l, .slice a1 n1 p1, .slice a2 n2 p2] 59)).cell? ⟨w1.heap.size, 0, none⟩ = some (.bool l) := by simp only [World.cell?, hn]; rfl
 have e1 : (w1.alloc (.cells #[.bool l, .slice a1 n1 p1, .slice a2 n2 p2] 59)).cell? ⟨w1.heap.size, 1, none⟩ = some (.slice a1 n1 p1) := by simp only [World.cell?, hn]; rfl
 have e2 : (w1.alloc (.cells #[.bool l, .slice a1 n1 p1, .slice a2 n2 p2] 59)).cell? ⟨w1.heap.size, 2, none⟩ = some (.slice a2 n2 p2) := by simp only [World.cell?, hn]; rfl
 have iv2 := Iv_gb iv1 gA (fun _ _ => nofun)
 have l2 := l1.alloc (o := .cells #[.bool l, .slice a1 n1 p1, .slice a2 n2 p2] 59) (by omega); clear gA x1 hn iv1 l1; dsimp only [v3]; go_upto_region 2 with fail
 generalize w1.alloc (.cells #[.bool l, .slice a1 n1 p1, .slice a2 n2 p2] 59) = w2 at *; generalize w1.heap.size = g4 at *; go_wp2_with (refine wpList_st3b rfl rfl rfl rfl x2 ?_)
 intro w3 g3 b3 z0 z1 z2; have iv3 : Hid (Iv (w.heap.size ≤ ·) w3 t (.bool l, .slice a1 n1 p1, .slice a2 n2 p2)) := Iv_mono (Iv_gb iv2 g3 (fun j hj e => by injection e with e; omega)) (fun k hk _ => by have := EH.out; omega)
 have l3 : Hid (Below w.heap.size w w3) := by
  show Below _ _ _
  rw [← EH.out]; exact l2.trans ⟨g3.os, g3.tape, g3.output, g3.size, fun j hj => g3.block j (by have := x2.hi; omega) (fun e => by injection e with e; omega)⟩
 clear iv2 l2 g3 b3 x2 e0 e1 e2; go_wp2_with fail
 exact bodyPost_ret (v := .tuple #[.agg #[.bool l, .slice a1 n1 p1, .slice a2 n2 p2], .int .i64 1]) (resI2 _ _ _ h 2 3 _ _ _ _ rfl rfl rfl z0 z1 z2) rfl ⟨(.bool l, .slice a1 n1 p1, .slice a2 n2 p2), rfl, iv3.out, l3.out⟩
set_option maxHeartbeats 1000000 in
set_option maxRecDepth 100000 in
theorem decode_all (t : It) (k c : Int) (n cap : Nat) (ao : Option Addr) (w : World) (hc : c = 0) (hk : Hid (decide (k < (n : Int)) = false))
  (KR : Hid (Calls Try.prog 41 #[.slice ao n cap] (w.alloc (.cells #[.bool false, .slice none 0 0, .slice none 0 0] 59)) fun e w' => ∃ v, e = .returned (.tuple #[v3 v, .int .i64 k, .int .i64 c]) ∧ Iv ((w.alloc (.cells #[.bool false, .slice none 0 0, .slice none 0 0] 59)).heap.size ≤ ·) w' t v ∧ Below (w.alloc (.cells #[.bool false, .slice none 0 0, .slice none 0 0] 59)).heap.size (w.alloc (.cells #[.bool false, .slice none 0 0, .slice none 0 0] 59)) w')) :
  Calls Try.prog 30 #[.slice ao n cap] w fun e w' => ∃ v, e = .returned (.tuple #[v3 v, .int .i64 c]) ∧ Iv (w.heap.size ≤ ·) w' t v ∧ Below w.heap.size w w' := by
 have x0 := B3_new w; have l0 : Below w.heap.size w (w.alloc (.cells #[.bool false, .slice none 0 0, .slice none 0 0] 59)) := (Below.refl _ _).alloc (Nat.le_refl _) _; subst hc; have d0 := hk.out; clear hk; go_enter Try.func30, Try.ntmps30
 go_upto_region 1 with fail
 generalize w.alloc (.cells #[.bool false, .slice none 0 0, .slice none 0 0] 59) = W0 at *; obtain ⟨h, eh⟩ : ∃ h, h = w.heap.size := ⟨_, rfl⟩; have EH : Hid (h = w.heap.size) := eh; rw [← eh] at x0 l0 ⊢; clear eh; go_wp2_with fail
 refine KR.out.mono (fun e w1 he => ?_)
 obtain ⟨v, rfl, iv, b1⟩ := he; have hx := x0.hi; obtain ⟨l, a1, n1, p1, a2, n2, p2, rfl⟩ := Iv_form iv; have x1 : B3 h w1 := B3_gb (r := none) x0 (gb_below b1) nofun; have l1 : Below h w w1 := l0.trans (b1.mono (by omega)); have iv1 := Iv_mono (S' := (h + 1 ≤ ·)) iv (fun k hk _ => Nat.le_trans hx hk)
 clear KR x0 l0 iv b1 hx; have hh : h < w1.heap.size := x1.hi; have gA := World.grownBy_alloc w1 (.cells #[.bool l, .slice a1 n1 p1, .slice a2 n2 p2] 59) none; have x2 : B3 h (w1.alloc (.cells #[.bool l, .slice a1 n1 p1, .slice a2 n2 p2] 59)) := B3_gb x1 gA nofun; have hn := heap_alloc_new w1 (.cells #[.bool l, .slice a1 n1 p1, .slice a2 n2 p2] 59); have e0 : (w1.alloc (.cells #[.bool l, .slice a1 n1 p1, .slice a2 n2 p2] 59)).cell? ⟨w1.heap.size, 0, none⟩ = some (.bool l) := by simp only [World.cell?, hn]; rfl
 have e1 : (w1.alloc (.cells #[.bool l, .slice a1 n1 p1, .slice a2 n2 p2] 59)).cell? ⟨w1.heap.size, 1, none⟩ = some (.slice a1 n1 p1) := by simp only [World.cell?, hn]; rfl
 have e2 : (w1.alloc (.cells #[.bool l, .slice a1 n1 p1, .slice a2 n2 p2] 59)).cell? ⟨w1.heap.size, 2, none⟩ = some (.slice a2 n2 p2) := by simp only [World.cell?, hn]; rfl
 have iv2 := Iv_gb iv1 gA (fun _ _ => nofun)
 have l2 := l1.alloc (o := .cells #[.bool l, .slice a1 n1 p1, .slice a2 n2 p2] 59) (by omega); clear gA x1 hn iv1 l1; dsimp only [v3]; go_upto_region 2 with fail
 generalize w1.alloc (.cells #[.bool l, .slice a1 n1 p1, .slice a2 n2 p2] 59) = w2 at *; generalize w1.heap.size = g4 at *; go_wp2_with (refine wpList_st3b rfl rfl rfl rfl x2 ?_)
 intro w3 g3 b3 z0 z1 z2; have iv3 : Hid (Iv (w.heap.size ≤ ·) w3 t (.bool l, .slice a1 n1 p1, .slice a2 n2 p2)) := Iv_mono (Iv_gb iv2 g3 (fun j hj e => by injection e with e; omega)) (fun k hk _ => by have := EH.out; omega)
 have l3 : Hid (Below w.heap.size w w3) := by
  show Below _ _ _
  rw [← EH.out]; exact l2.trans ⟨g3.os, g3.tape, g3.output, g3.size, fun j hj => g3.block j (by have := x2.hi; omega) (fun e => by injection e with e; omega)⟩
 clear iv2 l2 g3 b3 x2 e0 e1 e2; go_wp2_with fail
 exact bodyPost_ret (v := .tuple #[.agg #[.bool l, .slice a1 n1 p1, .slice a2 n2 p2], .int .i64 0]) (resI2 _ _ _ h 2 3 _ _ _ _ rfl rfl rfl z0 z1 z2) rfl ⟨(.bool l, .slice a1 n1 p1, .slice a2 n2 p2), rfl, iv3.out, l3.out⟩
set_option maxHeartbeats 1000000 in
set_option maxRecDepth 100000 in
theorem decode_part (t : It) (k c : Int) (n cap : Nat) (ao : Option Addr) (w : World) (hc : c = 0) (hk : Hid (decide (k < (n : Int)) = true))
  (KR : Hid (Calls Try.prog 41 #[.slice ao n cap] (w.alloc (.cells #[.bool false, .slice none 0 0, .slice none 0 0] 59)) fun e w' => ∃ v, e = .returned (.tuple #[v3 v, .int .i64 k, .int .i64 c]) ∧ Iv ((w.alloc (.cells #[.bool false, .slice none 0 0, .slice none 0 0] 59)).heap.size ≤ ·) w' t v ∧ Below (w.alloc (.cells #[.bool false, .slice none 0 0, .slice none 0 0] 59)).heap.size (w.alloc (.cells #[.bool false, .slice none 0 0, .slice none 0 0] 59)) w')) :
  Calls Try.prog 30 #[.slice ao n cap] w fun e w' => ∃ v, e = .returned (.tuple #[v3 v, .int .i64 1]) ∧ Iv (w.heap.size ≤ ·) w' It.no v ∧ Below w.heap.size w w' := by
 have x0 := B3_new w; have l0 : Below w.heap.size w (w.alloc (.cells #[.bool false, .slice none 0 0, .slice none 0 0] 59)) := (Below.refl _ _).alloc (Nat.le_refl _) _; subst hc; have d0 := hk.out; clear hk; go_enter Try.func30, Try.ntmps30
 go_upto_region 1 with fail
 generalize w.alloc (.cells #[.bool false, .slice none 0 0, .slice none 0 0] 59) = W0 at *; obtain ⟨h, eh⟩ : ∃ h, h = w.heap.size := ⟨_, rfl⟩; have EH : Hid (h = w.heap.size) := eh; rw [← eh] at x0 l0 ⊢; clear eh; go_wp2_with fail
 refine KR.out.mono (fun e w1 he => ?_)
 obtain ⟨v, rfl, iv, b1⟩ := he; have hx := x0.hi; obtain ⟨l, a1, n1, p1, a2, n2, p2, rfl⟩ := Iv_form iv; have x1 : B3 h w1 := B3_gb (r := none) x0 (gb_below b1) nofun; have l1 : Below h w w1 := l0.trans (b1.mono (by omega)); have iv1 := Iv_mono (S' := (h + 1 ≤ ·)) iv (fun k hk _ => Nat.le_trans hx hk)
 clear KR x0 l0 iv b1 hx; have hh : h < w1.heap.size := x1.hi; have gA := World.grownBy_alloc w1 (.cells #[.bool l, .slice a1 n1 p1, .slice a2 n2 p2] 59) none; have x2 : B3 h (w1.alloc (.cells #[.bool l, .slice a1 n1 p1, .slice a2 n2 p2] 59)) := B3_gb x1 gA nofun; have hn := heap_alloc_new w1 (.cells #[.bool l, .slice a1 n1 p1, .slice a2 n2 p2] 59); have e0 : (w1.alloc (.cells #[.bool l, .slice a1 n1 p1, .slice a2 n2 p2] 59)).cell? ⟨w1.heap.size, 0, none⟩ = some (.bool l) := by simp only [World.cell?, hn]; rfl
 have e1 : (w1.alloc (.cells #[.bool l, .slice a1 n1 p1, .slice a2 n2 p2] 59)).cell? ⟨w1.heap.size, 1, none⟩ = some (.slice a1 n1 p1) := by simp only [World.cell?, hn]; rfl
 have e2 : (w1.alloc (.cells #[.bool l, .slice a1 n1 p1, .slice a2 n2 p2] 59)).cell? ⟨w1.heap.size, 2, none⟩ = some (.slice a2 n2 p2) := by simp only [World.cell?, hn]; rfl
 have iv2 := Iv_gb iv1 gA (fun _ _ => nofun)
 have l2 := l1.alloc (o := .cells #[.bool l, .slice a1 n1 p1, .slice a2 n2 p2] 59) (by omega); clear gA x1 hn iv1 l1; dsimp only [v3]; go_upto_region 2 with fail
 generalize w1.alloc (.cells #[.bool l, .slice a1 n1 p1, .slice a2 n2 p2] 59) = w2 at *; generalize w1.heap.size = g4 at *; go_wp2_with (refine wpList_st3b rfl rfl rfl rfl x2 ?_)
 intro w3 g3 b3 z0 z1 z2; have l3 : Hid (Below w.heap.size w w3) := by
  show Below _ _ _
  rw [← EH.out]; exact l2.trans ⟨g3.os, g3.tape, g3.output, g3.size, fun j hj => g3.block j (by have := x2.hi; omega) (fun e => by injection e with e; omega)⟩
 clear iv2 l2 g3 b3 x2 e0 e1 e2; go_wp2_with fail
 exact bodyPost_ret (v := .tuple #[.agg #[.bool false, .slice none 0 0, .slice none 0 0], .int .i64 1]) (resI2 _ _ _ h 2 3 _ _ _ _ rfl rfl rfl z0 z1 z2) rfl ⟨(.bool false, .slice none 0 0, .slice none 0 0), rfl, .mk _ _ _ _ _ [] (Ty_nil _ _) rfl (Kx_nil _ _) (fun j hj => absurd hj (by simp)), l3.out⟩
theorem decode_any (b : List UInt8) (ao : Option Addr) (cap : Nat) (w : World) (hb : b.length ≤ 4194304) (hc : (cap : Int) ≤ 9223372036854775807) (h : Sl b (.slice ao b.length cap) w) :
  Calls Try.prog 30 #[.slice ao b.length cap] w fun e w' => ∃ v, e = .returned (.tuple #[v3 v, .int .i64 (dc b).2]) ∧ Iv (w.heap.size ≤ ·) w' (dc b).1 v ∧ Below w.heap.size w w' := by
 have l0 : Below w.heap.size w (w.alloc (.cells #[.bool false, .slice none 0 0, .slice none 0 0] 59)) := (Below.refl _ _).alloc (Nat.le_refl _) _; have KR := read_any b ao cap _ hb hc (Sl_below h l0); cases hr : ritem b with
 | none =>
  have e1 : sp b = (It.no, 0, 1) := by unfold sp; rw [hr]
  have e2 : dc b = (It.no, 1) := by unfold dc; rw [hr]
  rw [e1] at KR; rw [e2]; exact decode_bad _ _ _ _ cap ao w rfl KR
 | some q =>
  have e1 : sp b = (q.1, (b.length : Int) - q.2.length, 0) := by unfold sp; rw [hr]
  rw [e1] at KR; by_cases h0 : q.2.length = 0
  ·have e2 : dc b = (q.1, 0) := by unfold dc; rw [hr]; exact if_pos h0
   rw [e2]; exact decode_all _ _ _ _ cap ao w rfl (decide_eq_false (by simp only; omega)) KR
  ·have e2 : dc b = (It.no, 1) := by unfold dc; rw [hr]; exact if_neg h0
   rw [e2]; exact decode_part _ _ _ _ cap ao w rfl (decide_eq_true (by simp only; omega)) KR
end Pk
end Go.Proofs.Ytlbdaccmnpcccaa
namespace Go.Proofs.Ytlbdaccmnpcccaa
namespace Pk
open Go.RowKit
inductive Br : It → Prop where
 | text (t : List UInt8) : Br (.mk false t [])
 | list (ks : List It) (h : ∀ j, j < ks.length → Br (ks.getD j It.no)) : Br (.mk true [] ks)
theorem msr_up (k n : Nat) (h : k < n) : ((n : Int) - intOf (.int .i64 ((k + 1 : Nat) : Int))).toNat < ((n : Int) - intOf (.int .i64 (k : Int))).toNat := by
 simp only [intOf]; omega
inductive Sm : It → Prop where
 | mk (l : Bool) (t : List UInt8) (ks : List It) (ht : t.length ≤ 4194304) (hk : ks.length ≤ 4194304) (h : ∀ j, j < ks.length → Sm (ks.getD j It.no)) : Sm (.mk l t ks)
end Pk
end Go.Proofs.Ytlbdaccmnpcccaa
namespace Go.Proofs.Ytlbdaccmnpcccaa
namespace Pk
open Go.RowKit
def BS (t : It) : Prop := Br t ∧ Sm t
end Pk
end Go.Proofs.Ytlbdaccmnpcccaa
namespace Go.Proofs.Ytlbdaccmnpcccaa
namespace Pk
open Go.RowKit

end Pk
end Go.Proofs.Ytlbdaccmnpcccaa
namespace Go.Proofs.Ytlbdaccmnpcccaa
namespace Pk
open Go.RowKit
theorem res4t (f : Func) (tm : Array Value) (W : World) (a b c d : Nat) (p q r s : Value) (hf : f.results = #[.tmp a, .tmp b, .tmp c, .tmp d]) (h1 : tm.getD a undef = p) (h2 : tm.getD b undef = q) (h3 : tm.getD c undef = r) (h4 : tm.getD d undef = s) : (results f tm).run Try.prog W = .ok (.tuple #[p, q, r, s]) W := by
 simp at h1 h2 h3 h4
 simp [results, hf, go_sem, h1, h2, h3, h4]
set_option maxHeartbeats 400000 in
set_option maxRecDepth 100000 in
theorem pread_none (ao : Option Addr) (cap : Nat) (w : World) : Calls Try.prog 48 #[.slice ao 0 cap] w fun e w' => e = .returned (.tuple #[.int .i64 0, .int .i64 0, .bool false, .bool false]) ∧ w' = w := by
 go_enter Try.func48, Try.ntmps48
 go_wp2_with fail
 exact bodyPost_ret (res4t _ _ _ 2 3 4 5 _ _ _ _ rfl rfl rfl rfl rfl) rfl ⟨rfl, rfl⟩
set_option maxHeartbeats 1000000 in
set_option maxRecDepth 100000 in
theorem pread_low (g off L cap x : Nat) (w : World) (hL : 0 < L) (c0 : w.cell? ⟨g, off, none⟩ = some (.int .u8 (x : Int))) (hx : x < 128) : Calls Try.prog 48 #[.slice (some ⟨g, off, none⟩) L cap] w fun e w' => e = .returned (.tuple #[.int .i64 0, .int .i64 1, .bool false, .bool true]) ∧ w' = w := by
 have d0 : ¬ (L : Int) = 0 := by omega
 have d1 : (0 : Int) < (L : Int) := by omega
 have e0 : IntKind.i64.wrap (x : Int) = x := by rw [IntKind.wrap_i64]; omega
 have e1 : wrap64 (x : Int) = x := by unfold wrap64; omega
 have d2 : decide ((x : Int) < 128) = true := decide_eq_true (by omega); clear hL hx; go_enter Try.func48, Try.ntmps48
 go_wp2_with fail
 exact bodyPost_ret (res4t _ _ _ 2 3 4 5 _ _ _ _ rfl rfl rfl rfl rfl) rfl ⟨rfl, rfl⟩
end Pk
end Go.Proofs.Ytlbdaccmnpcccaa
namespace Go.Proofs.Ytlbdaccmnpcccaa
namespace Pk
open Go.RowKit
set_option maxHeartbeats 1000000 in
set_option maxRecDepth 100000 in
theorem pread_sfar_true (g off L cap : Nat) (X S M : Int) (w : World) (d0 : ((L : Int) == 0) = false) (d1 : (0 : Int) < (L : Int)) (c0 : w.cell? ⟨g, off, none⟩ = some (.int .u8 X)) (e1 : wrap64 X = X) (d2 : decide (X < 128) = false) (d3 : decide (192 ≤ X) = true) (e3 : wrap64 (X - 128) = X - 128) (e4 : (X - 128).tmod 64 = S) (d4 : decide (48 ≤ S) = false) (e5 : wrap64 ((L : Int) - 1) = M) (d5 : decide (M < S) = true) :
  Calls Try.prog 48 #[.slice (some ⟨g, off, none⟩) L cap] w fun e w' => e = .returned (.tuple #[.int .i64 0, .int .i64 0, .bool false, .bool false]) ∧ w' = w := by
 go_enter Try.func48, Try.ntmps48
 go_wp2_with fail
 exact bodyPost_ret (res4t _ _ _ 2 3 4 5 _ _ _ _ rfl rfl rfl rfl rfl) rfl ⟨rfl, rfl⟩
set_option maxHeartbeats 1000000 in
set_option maxRecDepth 100000 in
theorem pread_sfar_false (g off L cap : Nat) (X S M : Int) (w : World) (d0 : ((L : Int) == 0) = false) (d1 : (0 : Int) < (L : Int)) (c0 : w.cell? ⟨g, off, none⟩ = some (.int .u8 X)) (e1 : wrap64 X = X) (d2 : decide (X < 128) = false) (d3 : decide (192 ≤ X) = false) (e3 : wrap64 (X - 128) = X - 128) (e4 : (X - 128).tmod 64 = S) (d4 : decide (48 ≤ S) = false) (e5 : wrap64 ((L : Int) - 1) = M) (d5 : decide (M < S) = true) :
  Calls Try.prog 48 #[.slice (some ⟨g, off, none⟩) L cap] w fun e w' => e = .returned (.tuple #[.int .i64 0, .int .i64 0, .bool false, .bool false]) ∧ w' = w := by
 go_enter Try.func48, Try.ntmps48
 go_wp2_with fail
 exact bodyPost_ret (res4t _ _ _ 2 3 4 5 _ _ _ _ rfl rfl rfl rfl rfl) rfl ⟨rfl, rfl⟩
set_option maxHeartbeats 1000000 in
set_option maxRecDepth 100000 in
theorem pread_slist (g off L cap : Nat) (X S M T : Int) (w : World) (d0 : ((L : Int) == 0) = false) (d1 : (0 : Int) < (L : Int)) (c0 : w.cell? ⟨g, off, none⟩ = some (.int .u8 X)) (e1 : wrap64 X = X) (d2 : decide (X < 128) = false) (d3 : decide (192 ≤ X) = true) (e3 : wrap64 (X - 128) = X - 128) (e4 : (X - 128).tmod 64 = S) (d4 : decide (48 ≤ S) = false) (e5 : wrap64 ((L : Int) - 1) = M) (d5 : decide (M < S) = false) (e6 : wrap64 (1 + S) = T) :
  Calls Try.prog 48 #[.slice (some ⟨g, off, none⟩) L cap] w fun e w' => e = .returned (.tuple #[.int .i64 1, .int .i64 T, .bool true, .bool true]) ∧ w' = w := by
 go_enter Try.func48, Try.ntmps48
 go_wp2_with fail
 exact bodyPost_ret (res4t _ _ _ 2 3 4 5 _ _ _ _ rfl rfl rfl rfl rfl) rfl ⟨by subst e6; rfl, rfl⟩
set_option maxHeartbeats 1000000 in
set_option maxRecDepth 100000 in
theorem pread_stext (g off L cap : Nat) (X S M T : Int) (w : World) (d0 : ((L : Int) == 0) = false) (d1 : (0 : Int) < (L : Int)) (c0 : w.cell? ⟨g, off, none⟩ = some (.int .u8 X)) (e1 : wrap64 X = X) (d2 : decide (X < 128) = false) (d3 : decide (192 ≤ X) = false) (e3 : wrap64 (X - 128) = X - 128) (e4 : (X - 128).tmod 64 = S) (d4 : decide (48 ≤ S) = false) (e5 : wrap64 ((L : Int) - 1) = M) (d5 : decide (M < S) = false) (e6 : wrap64 (1 + S) = T) (d6 : (S == 1) = false) :
  Calls Try.prog 48 #[.slice (some ⟨g, off, none⟩) L cap] w fun e w' => e = .returned (.tuple #[.int .i64 1, .int .i64 T, .bool false, .bool true]) ∧ w' = w := by
 go_enter Try.func48, Try.ntmps48
 go_wp2_with fail
 exact bodyPost_ret (res4t _ _ _ 2 3 4 5 _ _ _ _ rfl rfl rfl rfl rfl) rfl ⟨by subst e6; rfl, rfl⟩
set_option maxHeartbeats 1000000 in
set_option maxRecDepth 100000 in
theorem pread_sone (g off L cap : Nat) (X S M Y : Int) (w : World) (d0 : ((L : Int) == 0) = false) (_d1 : (0 : Int) < (L : Int)) (c0 : w.cell? ⟨g, off, none⟩ = some (.int .u8 X)) (e1 : wrap64 X = X) (d2 : decide (X < 128) = false) (d3 : decide (192 ≤ X) = false) (e3 : wrap64 (X - 128) = X - 128) (e4 : (X - 128).tmod 64 = S) (d4 : decide (48 ≤ S) = false) (e5 : wrap64 ((L : Int) - 1) = M) (d5 : decide (M < S) = false) (d6 : (S == 1) = true) (l1 : (1 : Int) < (L : Int)) (c1 : w.cell? ⟨g, off + 1, none⟩ = some (.int .u8 Y)) (d7 : decide (Y < 128) = true) :
  Calls Try.prog 48 #[.slice (some ⟨g, off, none⟩) L cap] w fun e w' => e = .returned (.tuple #[.int .i64 0, .int .i64 0, .bool false, .bool false]) ∧ w' = w := by
 go_enter Try.func48, Try.ntmps48
 go_wp2_with fail
 exact bodyPost_ret (res4t _ _ _ 2 3 4 5 _ _ _ _ rfl rfl rfl rfl rfl) rfl ⟨rfl, rfl⟩
set_option maxHeartbeats 1000000 in
set_option maxRecDepth 100000 in
theorem pread_shigh (g off L cap : Nat) (X S M Y T : Int) (w : World) (d0 : ((L : Int) == 0) = false) (_d1 : (0 : Int) < (L : Int)) (c0 : w.cell? ⟨g, off, none⟩ = some (.int .u8 X)) (e1 : wrap64 X = X) (d2 : decide (X < 128) = false) (d3 : decide (192 ≤ X) = false) (e3 : wrap64 (X - 128) = X - 128) (e4 : (X - 128).tmod 64 = S) (d4 : decide (48 ≤ S) = false) (e5 : wrap64 ((L : Int) - 1) = M)  (e6 : wrap64 (1 + S) = T)(d5 : decide (M < S) = false) (d6 : (S == 1) = true) (l1 : (1 : Int) < (L : Int)) (c1 : w.cell? ⟨g, off + 1, none⟩ = some (.int .u8 Y)) (d7 : decide (Y < 128) = false) :
  Calls Try.prog 48 #[.slice (some ⟨g, off, none⟩) L cap] w fun e w' => e = .returned (.tuple #[.int .i64 1, .int .i64 T, .bool false, .bool true]) ∧ w' = w := by
 go_enter Try.func48, Try.ntmps48
 go_wp2_with fail
 exact bodyPost_ret (res4t _ _ _ 2 3 4 5 _ _ _ _ rfl rfl rfl rfl rfl) rfl ⟨by subst e6; rfl, rfl⟩
set_option maxHeartbeats 1000000 in
set_option maxRecDepth 100000 in
theorem pread_k8_true (g off L cap : Nat) (X S K : Int) (w : World) (d0 : ((L : Int) == 0) = false) (d1 : (0 : Int) < (L : Int)) (c0 : w.cell? ⟨g, off, none⟩ = some (.int .u8 X)) (e1 : wrap64 X = X) (d2 : decide (X < 128) = false) (d3 : decide (192 ≤ X) = true) (e3 : wrap64 (X - 128) = X - 128) (e4 : (X - 128).tmod 64 = S) (d4 : decide (48 ≤ S) = true) (e7 : wrap64 (S - 47) = K) (d8 : decide (8 < K) = true) :
  Calls Try.prog 48 #[.slice (some ⟨g, off, none⟩) L cap] w fun e w' => e = .returned (.tuple #[.int .i64 0, .int .i64 0, .bool false, .bool false]) ∧ Below w.heap.size w w' := by
 go_enter Try.func48, Try.ntmps48
 go_wp2_with fail
 exact bodyPost_ret (res4t _ _ _ 2 3 4 5 _ _ _ _ rfl rfl rfl rfl rfl) rfl ⟨rfl, Below.refl _ _⟩
set_option maxHeartbeats 1000000 in
set_option maxRecDepth 100000 in
theorem pread_torn_true (g off L cap : Nat) (X S K J : Int) (w : World) (d0 : ((L : Int) == 0) = false) (d1 : (0 : Int) < (L : Int)) (c0 : w.cell? ⟨g, off, none⟩ = some (.int .u8 X)) (e1 : wrap64 X = X) (d2 : decide (X < 128) = false) (d3 : decide (192 ≤ X) = true) (e3 : wrap64 (X - 128) = X - 128) (e4 : (X - 128).tmod 64 = S) (d4 : decide (48 ≤ S) = true) (e7 : wrap64 (S - 47) = K) (d8 : decide (8 < K) = false) (e8 : wrap64 (1 + K) = J) (d9 : decide ((L : Int) < J) = true) :
  Calls Try.prog 48 #[.slice (some ⟨g, off, none⟩) L cap] w fun e w' => e = .returned (.tuple #[.int .i64 0, .int .i64 0, .bool false, .bool false]) ∧ Below w.heap.size w w' := by
 go_enter Try.func48, Try.ntmps48
 go_wp2_with fail
 exact bodyPost_ret (res4t _ _ _ 2 3 4 5 _ _ _ _ rfl rfl rfl rfl rfl) rfl ⟨rfl, Below.refl _ _⟩
set_option maxHeartbeats 1000000 in
set_option maxRecDepth 100000 in
theorem pread_k8_false (g off L cap : Nat) (X S K : Int) (w : World) (d0 : ((L : Int) == 0) = false) (d1 : (0 : Int) < (L : Int)) (c0 : w.cell? ⟨g, off, none⟩ = some (.int .u8 X)) (e1 : wrap64 X = X) (d2 : decide (X < 128) = false) (d3 : decide (192 ≤ X) = false) (e3 : wrap64 (X - 128) = X - 128) (e4 : (X - 128).tmod 64 = S) (d4 : decide (48 ≤ S) = true) (e7 : wrap64 (S - 47) = K) (d8 : decide (8 < K) = true) :
  Calls Try.prog 48 #[.slice (some ⟨g, off, none⟩) L cap] w fun e w' => e = .returned (.tuple #[.int .i64 0, .int .i64 0, .bool false, .bool false]) ∧ Below w.heap.size w w' := by
 go_enter Try.func48, Try.ntmps48
 go_wp2_with fail
 exact bodyPost_ret (res4t _ _ _ 2 3 4 5 _ _ _ _ rfl rfl rfl rfl rfl) rfl ⟨rfl, Below.refl _ _⟩
set_option maxHeartbeats 1000000 in
set_option maxRecDepth 100000 in
theorem pread_torn_false (g off L cap : Nat) (X S K J : Int) (w : World) (d0 : ((L : Int) == 0) = false) (d1 : (0 : Int) < (L : Int)) (c0 : w.cell? ⟨g, off, none⟩ = some (.int .u8 X)) (e1 : wrap64 X = X) (d2 : decide (X < 128) = false) (d3 : decide (192 ≤ X) = false) (e3 : wrap64 (X - 128) = X - 128) (e4 : (X - 128).tmod 64 = S) (d4 : decide (48 ≤ S) = true) (e7 : wrap64 (S - 47) = K) (d8 : decide (8 < K) = false) (e8 : wrap64 (1 + K) = J) (d9 : decide ((L : Int) < J) = true) :
  Calls Try.prog 48 #[.slice (some ⟨g, off, none⟩) L cap] w fun e w' => e = .returned (.tuple #[.int .i64 0, .int .i64 0, .bool false, .bool false]) ∧ Below w.heap.size w w' := by
 go_enter Try.func48, Try.ntmps48
 go_wp2_with fail
 exact bodyPost_ret (res4t _ _ _ 2 3 4 5 _ _ _ _ rfl rfl rfl rfl rfl) rfl ⟨rfl, Below.refl _ _⟩
set_option maxHeartbeats 1000000 in
set_option maxRecDepth 100000 in
theorem pread_terr (g off L cap : Nat) (lf : Bool) (X S K J A B C D : Int) (w : World) (d0 : ((L : Int) == 0) = false) (d1 : (0 : Int) < (L : Int)) (c0 : w.cell? ⟨g, off, none⟩ = some (.int .u8 X)) (e1 : wrap64 X = X) (d2 : decide (X < 128) = false) (d3 : decide (192 ≤ X) = lf) (e3 : wrap64 (X - 128) = X - 128) (e4 : (X - 128).tmod 64 = S) (d4 : decide (48 ≤ S) = true) (e7 : wrap64 (S - 47) = K) (d8 : decide (8 < K) = false) (e8 : wrap64 (1 + K) = J) (d9 : decide ((L : Int) < J) = false) (j1 : (1 : Int) ≤ J) (j2 : J ≤ (cap : Int)) (j3 : (1 : Int) < (cap : Int)) (KT : Hid (Calls Try.prog 58 #[.slice (some ⟨g, off + 1, none⟩) (J.toNat - 1) (cap - 1)] w fun e w' => e = .returned (.tuple #[.agg #[.int .u64 A, .int .u64 B, .int .u64 C, .int .u64 D], .int .i64 1]) ∧ Below w.heap.size w w'))  :
  Calls Try.prog 48 #[.slice (some ⟨g, off, none⟩) L cap] w fun e w' => e = .returned (.tuple #[.int .i64 0, .int .i64 0, .bool false, .bool false]) ∧ Below w.heap.size w w' := by
 go_enter Try.func48, Try.ntmps48
 go_wp2_with fail
 refine KT.out.mono (fun e w2 he => ?_)
 obtain ⟨rfl, b1⟩ := he; go_wp2_with fail
 have b2 := b1.alloc b1.size (.cells #[.int .u64 A, .int .u64 B, .int .u64 C, .int .u64 D] 106); exact bodyPost_ret (res4t _ _ _ 2 3 4 5 _ _ _ _ rfl rfl rfl rfl rfl) rfl ⟨rfl, b2⟩
set_option maxHeartbeats 1000000 in
set_option maxRecDepth 100000 in
theorem pread_tlow (g off L cap : Nat) (lf : Bool) (X S K J A B C D : Int) (w : World) (d0 : ((L : Int) == 0) = false) (d1 : (0 : Int) < (L : Int)) (c0 : w.cell? ⟨g, off, none⟩ = some (.int .u8 X)) (e1 : wrap64 X = X) (d2 : decide (X < 128) = false) (d3 : decide (192 ≤ X) = lf) (e3 : wrap64 (X - 128) = X - 128) (e4 : (X - 128).tmod 64 = S) (d4 : decide (48 ≤ S) = true) (e7 : wrap64 (S - 47) = K) (d8 : decide (8 < K) = false) (e8 : wrap64 (1 + K) = J) (d9 : decide ((L : Int) < J) = false) (j1 : (1 : Int) ≤ J) (j2 : J ≤ (cap : Int)) (j3 : (1 : Int) < (cap : Int)) (KT : Hid (Calls Try.prog 58 #[.slice (some ⟨g, off + 1, none⟩) (J.toNat - 1) (cap - 1)] w fun e w' => e = .returned (.tuple #[.agg #[.int .u64 A, .int .u64 B, .int .u64 C, .int .u64 D], .int .i64 0]) ∧ Below w.heap.size w w')) (f1 : decide (A < 48) = true) :
  Calls Try.prog 48 #[.slice (some ⟨g, off, none⟩) L cap] w fun e w' => e = .returned (.tuple #[.int .i64 0, .int .i64 0, .bool false, .bool false]) ∧ Below w.heap.size w w' := by
 go_enter Try.func48, Try.ntmps48
 go_wp2_with fail
 refine KT.out.mono (fun e w2 he => ?_)
 obtain ⟨rfl, b1⟩ := he; go_wp2_with fail
 have b2 := b1.alloc b1.size (.cells #[.int .u64 A, .int .u64 B, .int .u64 C, .int .u64 D] 106); exact bodyPost_ret (res4t _ _ _ 2 3 4 5 _ _ _ _ rfl rfl rfl rfl rfl) rfl ⟨rfl, b2⟩
set_option maxHeartbeats 1000000 in
set_option maxRecDepth 100000 in
theorem pread_tgreat (g off L cap : Nat) (lf : Bool) (X S K J A B C D : Int) (w : World) (d0 : ((L : Int) == 0) = false) (d1 : (0 : Int) < (L : Int)) (c0 : w.cell? ⟨g, off, none⟩ = some (.int .u8 X)) (e1 : wrap64 X = X) (d2 : decide (X < 128) = false) (d3 : decide (192 ≤ X) = lf) (e3 : wrap64 (X - 128) = X - 128) (e4 : (X - 128).tmod 64 = S) (d4 : decide (48 ≤ S) = true) (e7 : wrap64 (S - 47) = K) (d8 : decide (8 < K) = false) (e8 : wrap64 (1 + K) = J) (d9 : decide ((L : Int) < J) = false) (j1 : (1 : Int) ≤ J) (j2 : J ≤ (cap : Int)) (j3 : (1 : Int) < (cap : Int)) (KT : Hid (Calls Try.prog 58 #[.slice (some ⟨g, off + 1, none⟩) (J.toNat - 1) (cap - 1)] w fun e w' => e = .returned (.tuple #[.agg #[.int .u64 A, .int .u64 B, .int .u64 C, .int .u64 D], .int .i64 0]) ∧ Below w.heap.size w w')) (f1 : decide (A < 48) = false) (u1 : IntKind.u64.wrap (L : Int) = (L : Int)) (f2 : decide ((L : Int) < A) = true) :
  Calls Try.prog 48 #[.slice (some ⟨g, off, none⟩) L cap] w fun e w' => e = .returned (.tuple #[.int .i64 0, .int .i64 0, .bool false, .bool false]) ∧ Below w.heap.size w w' := by
 go_enter Try.func48, Try.ntmps48
 go_wp2_with fail
 refine KT.out.mono (fun e w2 he => ?_)
 obtain ⟨rfl, b1⟩ := he; go_wp2_with fail
 have b2 := b1.alloc b1.size (.cells #[.int .u64 A, .int .u64 B, .int .u64 C, .int .u64 D] 106); exact bodyPost_ret (res4t _ _ _ 2 3 4 5 _ _ _ _ rfl rfl rfl rfl rfl) rfl ⟨rfl, b2⟩
set_option maxHeartbeats 1000000 in
set_option maxRecDepth 100000 in
theorem pread_lfar (g off L cap k : Nat) (lf : Bool) (X S K J M A B C D : Int) (w : World) (d0 : ((L : Int) == 0) = false) (d1 : (0 : Int) < (L : Int)) (c0 : w.cell? ⟨g, off, none⟩ = some (.int .u8 X)) (e1 : wrap64 X = X) (d2 : decide (X < 128) = false) (d3 : decide (192 ≤ X) = lf) (e3 : wrap64 (X - 128) = X - 128) (e4 : (X - 128).tmod 64 = S) (d4 : decide (48 ≤ S) = true) (e7 : wrap64 (S - 47) = K) (d8 : decide (8 < K) = false) (e8 : wrap64 (1 + K) = J) (d9 : decide ((L : Int) < J) = false) (j1 : (1 : Int) ≤ J) (j2 : J ≤ (cap : Int)) (j3 : (1 : Int) < (cap : Int)) (KT : Hid (Calls Try.prog 58 #[.slice (some ⟨g, off + 1, none⟩) (J.toNat - 1) (cap - 1)] w fun e w' => e = .returned (.tuple #[.agg #[.int .u64 A, .int .u64 B, .int .u64 C, .int .u64 D], .int .i64 0]) ∧ Below w.heap.size w w')) (f1 : decide (A < 48) = false) (u1 : IntKind.u64.wrap (L : Int) = (L : Int)) (f2 : decide ((L : Int) < A) = false) (KP : Hid (∀ wx : World, Calls Try.prog 59 #[.agg #[.int .u64 A, .int .u64 B, .int .u64 C, .int .u64 D]] wx fun e w' => ∃ (a3 : Option Addr) (c3 : Nat), e = .returned (.slice a3 k c3) ∧ Below wx.heap.size wx w')) (e9 : wrap64 A = A) (eM : wrap64 ((L : Int) - J) = M) (d10 : ((k : Int) != K) = false) (f3 : decide (M < A) = true) :
  Calls Try.prog 48 #[.slice (some ⟨g, off, none⟩) L cap] w fun e w' => e = .returned (.tuple #[.int .i64 0, .int .i64 0, .bool false, .bool false]) ∧ Below w.heap.size w w' := by
 go_enter Try.func48, Try.ntmps48
 go_wp2_with fail
 refine KT.out.mono (fun e w2 he => ?_)
 obtain ⟨rfl, b1⟩ := he; go_wp2_with fail
 have b2 : Below w.heap.size w (w2.alloc (.cells #[.int .u64 A, .int .u64 B, .int .u64 C, .int .u64 D] 106)) := b1.alloc b1.size _; have c4 : (w2.alloc (.cells #[.int .u64 A, .int .u64 B, .int .u64 C, .int .u64 D] 106)).cell? ⟨w2.heap.size, 0, none⟩ = some (.int .u64 A) := by simp [go_sem]
 have h4 : w2.heap.size < (w2.alloc (.cells #[.int .u64 A, .int .u64 B, .int .u64 C, .int .u64 D] 106)).heap.size := by simp
 generalize w2.alloc (.cells #[.int .u64 A, .int .u64 B, .int .u64 C, .int .u64 D] 106) = W2 at *; generalize w2.heap.size = G2 at *; refine (KP.out _).mono (fun e w3 he => ?_)
 obtain ⟨a3, c3, rfl, b3⟩ := he; have c5 := (b3.cell (p := ⟨G2, 0, none⟩) h4).trans c4; have b5 := b2.trans (b3.mono b2.size); clear b1 b2 b3 c4 h4 KT KP; go_wp2_with fail
 exact bodyPost_ret (res4t _ _ _ 2 3 4 5 _ _ _ _ rfl rfl rfl rfl rfl) rfl ⟨rfl, b5⟩
set_option maxHeartbeats 1000000 in
set_option maxRecDepth 100000 in
theorem pread_llist (g off L cap k : Nat) (X S K J M A B C D T : Int) (w : World) (d0 : ((L : Int) == 0) = false) (d1 : (0 : Int) < (L : Int)) (c0 : w.cell? ⟨g, off, none⟩ = some (.int .u8 X)) (e1 : wrap64 X = X) (d2 : decide (X < 128) = false) (d3 : decide (192 ≤ X) = true) (e3 : wrap64 (X - 128) = X - 128) (e4 : (X - 128).tmod 64 = S) (d4 : decide (48 ≤ S) = true) (e7 : wrap64 (S - 47) = K) (d8 : decide (8 < K) = false) (e8 : wrap64 (1 + K) = J) (d9 : decide ((L : Int) < J) = false) (j1 : (1 : Int) ≤ J) (j2 : J ≤ (cap : Int)) (j3 : (1 : Int) < (cap : Int)) (KT : Hid (Calls Try.prog 58 #[.slice (some ⟨g, off + 1, none⟩) (J.toNat - 1) (cap - 1)] w fun e w' => e = .returned (.tuple #[.agg #[.int .u64 A, .int .u64 B, .int .u64 C, .int .u64 D], .int .i64 0]) ∧ Below w.heap.size w w')) (f1 : decide (A < 48) = false) (u1 : IntKind.u64.wrap (L : Int) = (L : Int)) (f2 : decide ((L : Int) < A) = false) (KP : Hid (∀ wx : World, Calls Try.prog 59 #[.agg #[.int .u64 A, .int .u64 B, .int .u64 C, .int .u64 D]] wx fun e w' => ∃ (a3 : Option Addr) (c3 : Nat), e = .returned (.slice a3 k c3) ∧ Below wx.heap.size wx w')) (e9 : wrap64 A = A) (eM : wrap64 ((L : Int) - J) = M) (d10 : ((k : Int) != K) = false) (f3 : decide (M < A) = false) (eT : wrap64 (J + A) = T)  :
  Calls Try.prog 48 #[.slice (some ⟨g, off, none⟩) L cap] w fun e w' => e = .returned (.tuple #[.int .i64 J, .int .i64 T, .bool true, .bool true]) ∧ Below w.heap.size w w' := by
 go_enter Try.func48, Try.ntmps48
 go_wp2_with fail
 refine KT.out.mono (fun e w2 he => ?_)
 obtain ⟨rfl, b1⟩ := he; go_wp2_with fail
 have b2 : Below w.heap.size w (w2.alloc (.cells #[.int .u64 A, .int .u64 B, .int .u64 C, .int .u64 D] 106)) := b1.alloc b1.size _; have c4 : (w2.alloc (.cells #[.int .u64 A, .int .u64 B, .int .u64 C, .int .u64 D] 106)).cell? ⟨w2.heap.size, 0, none⟩ = some (.int .u64 A) := by simp [go_sem]
 have h4 : w2.heap.size < (w2.alloc (.cells #[.int .u64 A, .int .u64 B, .int .u64 C, .int .u64 D] 106)).heap.size := by simp
 generalize w2.alloc (.cells #[.int .u64 A, .int .u64 B, .int .u64 C, .int .u64 D] 106) = W2 at *; generalize w2.heap.size = G2 at *; refine (KP.out _).mono (fun e w3 he => ?_)
 obtain ⟨a3, c3, rfl, b3⟩ := he; have c5 := (b3.cell (p := ⟨G2, 0, none⟩) h4).trans c4; have b5 := b2.trans (b3.mono b2.size); clear b1 b2 b3 c4 h4 KT KP; go_wp2_with fail
 exact bodyPost_ret (res4t _ _ _ 2 3 4 5 _ _ _ _ rfl rfl rfl rfl rfl) rfl ⟨by subst eT; subst e8; rfl, b5⟩
set_option maxHeartbeats 1000000 in
set_option maxRecDepth 100000 in
theorem pread_ltext (g off L cap k : Nat) (X S K J M A B C D T : Int) (w : World) (d0 : ((L : Int) == 0) = false) (d1 : (0 : Int) < (L : Int)) (c0 : w.cell? ⟨g, off, none⟩ = some (.int .u8 X)) (e1 : wrap64 X = X) (d2 : decide (X < 128) = false) (d3 : decide (192 ≤ X) = false) (e3 : wrap64 (X - 128) = X - 128) (e4 : (X - 128).tmod 64 = S) (d4 : decide (48 ≤ S) = true) (e7 : wrap64 (S - 47) = K) (d8 : decide (8 < K) = false) (e8 : wrap64 (1 + K) = J) (d9 : decide ((L : Int) < J) = false) (j1 : (1 : Int) ≤ J) (j2 : J ≤ (cap : Int)) (j3 : (1 : Int) < (cap : Int)) (KT : Hid (Calls Try.prog 58 #[.slice (some ⟨g, off + 1, none⟩) (J.toNat - 1) (cap - 1)] w fun e w' => e = .returned (.tuple #[.agg #[.int .u64 A, .int .u64 B, .int .u64 C, .int .u64 D], .int .i64 0]) ∧ Below w.heap.size w w')) (f1 : decide (A < 48) = false) (u1 : IntKind.u64.wrap (L : Int) = (L : Int)) (f2 : decide ((L : Int) < A) = false) (KP : Hid (∀ wx : World, Calls Try.prog 59 #[.agg #[.int .u64 A, .int .u64 B, .int .u64 C, .int .u64 D]] wx fun e w' => ∃ (a3 : Option Addr) (c3 : Nat), e = .returned (.slice a3 k c3) ∧ Below wx.heap.size wx w')) (e9 : wrap64 A = A) (eM : wrap64 ((L : Int) - J) = M) (d10 : ((k : Int) != K) = false) (f3 : decide (M < A) = false) (eT : wrap64 (J + A) = T) (f4 : (A == 1) = false) :
  Calls Try.prog 48 #[.slice (some ⟨g, off, none⟩) L cap] w fun e w' => e = .returned (.tuple #[.int .i64 J, .int .i64 T, .bool false, .bool true]) ∧ Below w.heap.size w w' := by
 go_enter Try.func48, Try.ntmps48
 go_wp2_with fail
 refine KT.out.mono (fun e w2 he => ?_)
 obtain ⟨rfl, b1⟩ := he; go_wp2_with fail
 have b2 : Below w.heap.size w (w2.alloc (.cells #[.int .u64 A, .int .u64 B, .int .u64 C, .int .u64 D] 106)) := b1.alloc b1.size _; have c4 : (w2.alloc (.cells #[.int .u64 A, .int .u64 B, .int .u64 C, .int .u64 D] 106)).cell? ⟨w2.heap.size, 0, none⟩ = some (.int .u64 A) := by simp [go_sem]
 have h4 : w2.heap.size < (w2.alloc (.cells #[.int .u64 A, .int .u64 B, .int .u64 C, .int .u64 D] 106)).heap.size := by simp
 generalize w2.alloc (.cells #[.int .u64 A, .int .u64 B, .int .u64 C, .int .u64 D] 106) = W2 at *; generalize w2.heap.size = G2 at *; refine (KP.out _).mono (fun e w3 he => ?_)
 obtain ⟨a3, c3, rfl, b3⟩ := he; have c5 := (b3.cell (p := ⟨G2, 0, none⟩) h4).trans c4; have b5 := b2.trans (b3.mono b2.size); clear b1 b2 b3 c4 h4 KT KP; go_wp2_with fail
 exact bodyPost_ret (res4t _ _ _ 2 3 4 5 _ _ _ _ rfl rfl rfl rfl rfl) rfl ⟨by subst eT; subst e8; rfl, b5⟩
end Pk
end Go.Proofs.Ytlbdaccmnpcccaa
namespace Go.Proofs.Ytlbdaccmnpcccaa
namespace Pk
open Go.RowKit
def prd (b : List UInt8) : Option (Nat × Nat × Bool) :=
 match b with
 | [] => none
 | c :: r =>
  if c.toNat < 128 then some (0, 1, false) else
  match rsz ((c.toNat - 128) % 64) r with
  | none => none
  | some (n, k) =>
   if (r.drop k).length < n then none else
   if c.toNat < 192 ∧ n = 1 ∧ Sp.bz (r.drop k) 0 < 128 then none else some (1 + k, 1 + k + n, decide (192 ≤ c.toNat))
def prv : Option (Nat × Nat × Bool) → Value
 | none => .tuple #[.int .i64 0, .int .i64 0, .bool false, .bool false]
 | some (f, t, l) => .tuple #[.int .i64 (f : Int), .int .i64 (t : Int), .bool l, .bool true]
theorem prv_low : prv (some (0, 1, false)) = .tuple #[.int .i64 0, .int .i64 1, .bool false, .bool true] := rfl
theorem prv_none : prv none = .tuple #[.int .i64 0, .int .i64 0, .bool false, .bool false] := rfl
theorem prv_1 (t : Nat) (l : Bool) : prv (some (1, t, l)) = .tuple #[.int .i64 1, .int .i64 (t : Int), .bool l, .bool true] := rfl
theorem prv_some (f t : Nat) (l : Bool) : prv (some (f, t, l)) = .tuple #[.int .i64 (f : Int), .int .i64 (t : Int), .bool l, .bool true] := rfl
theorem rsz_k8 (s : Nat) (r : List UInt8) (h : 56 ≤ s) (hl : r.length ≤ 4194304) : rsz s r = none := by
 unfold rsz
 rw [if_neg (by omega)]; split
 ·rfl
 ·rename_i h1
  split
  ·rfl
  ·rename_i h2
   split
   ·rfl
   ·rw [if_pos]; have lt : (r.take (s - 47)).length = s - 47 := by rw [List.length_take]; omega
    have k := cb_low (r.take (s - 47)) h2 (by omega); rw [lt] at k; have k2 : 256 ^ 8 ≤ 256 ^ (s - 47 - 1) := Nat.pow_le_pow_right (by decide) (by omega); have k3 : (256 : Nat) ^ 8 = 18446744073709551616 := by decide
    rw [List.length_drop]; omega
theorem dg_small (n : Nat) (h : n < 18446744073709551616) : dg n 0 = (n : Int) := by
 unfold dg
 rw [Nat.mul_zero, Nat.pow_zero, Nat.div_one, Nat.mod_eq_of_lt h]
theorem vb_64 (d : List UInt8) (h : d.length ≤ 8) : vb 0 d < 18446744073709551616 := by
 have k := vb_lt d; have k2 : 256 ^ d.length ≤ 256 ^ 8 := Nat.pow_le_pow_right (by decide) h; have k3 : (256 : Nat) ^ 8 = 18446744073709551616 := by decide
 omega
theorem int_wr (z : Int) (h0 : -9223372036854775808 ≤ z) (h1 : z ≤ 9223372036854775807) : wrap64 z = z := by unfold wrap64; omega
theorem u64_wr (z : Int) (h0 : 0 ≤ z) (h1 : z ≤ 9223372036854775807) : IntKind.u64.wrap z = z := by rw [IntKind.wrap_u64]; omega
set_option maxHeartbeats 4000000 in
theorem pread_any (b : List UInt8) (ao : Option Addr) (cap : Nat) (w : World) (hb : b.length ≤ 4194304) (hcap : b.length ≤ cap) (hc : (cap : Int) ≤ 9223372036854775807) (vw : Sp.Vw b ao w) :
  Calls Try.prog 48 #[.slice ao b.length cap] w fun e w' => e = .returned (prv (prd b)) ∧ Below w.heap.size w w' := by
 cases b with
 | nil => rw [show prv (prd []) = prv none from rfl, prv_none]; exact (pread_none ao cap w).mono fun e w' he => ⟨he.1, by rw [he.2]; exact Below.refl _ _⟩
 | cons c r =>
  obtain ⟨g, off, rfl, hg, hcell⟩ := vw (by rw [List.length_cons]; omega)
  have c0 := hcell 0 (by rw [List.length_cons]; omega)
  have c0 : w.cell? ⟨g, off, none⟩ = some (.int .u8 (c.toNat : Int)) := c0; have hx := UInt8.toNat_lt c; have hL : (c :: r).length = r.length + 1 := List.length_cons; generalize hx0 : c.toNat = x at *; by_cases h128 : x < 128
  ·have e : prd (c :: r) = some (0, 1, false) := by unfold prd; simp only [hx0]; rw [if_pos h128]
   rw [e, prv_low]; exact (pread_low g off _ cap x w (by omega) c0 h128).mono fun e w' he => ⟨he.1, by rw [he.2]; exact Below.refl _ _⟩
  ·obtain ⟨s, hs⟩ : ∃ s, s = (x - 128) % 64 := ⟨_, rfl⟩; have d0 : (((c :: r).length : Int) == 0) = false := beq_false_of_ne (by omega); have d1 : (0 : Int) < ((c :: r).length : Int) := by omega
   have e1 : Hid (wrap64 (x : Int) = x) := int_wr _ (by omega) (by omega); have d2 : decide ((x : Int) < 128) = false := decide_eq_false (by omega); obtain ⟨lf, hlf⟩ : ∃ lf, lf = decide (192 ≤ x) := ⟨_, rfl⟩; have d3 : decide (192 ≤ (x : Int)) = lf := by rw [hlf, decide_eq_decide]; omega
   have e3 : Hid (wrap64 ((x : Int) - 128) = (x : Int) - 128) := int_wr _ (by omega) (by omega); have e4 : ((x : Int) - 128).tmod 64 = (s : Int) := by rw [Int.tmod_eq_emod_of_nonneg (by omega)]; omega
   have hs64 : s < 64 := by omega
   have lift : ∀ {F : Nat} {A : Array Value} {W : World} {v : Value}, (Calls Try.prog F A W fun e w' => e = .returned v ∧ w' = W) → Calls Try.prog F A W fun e w' => e = .returned v ∧ Below W.heap.size W w' := fun h => h.mono fun e w' he => ⟨he.1, by rw [he.2]; exact Below.refl _ _⟩
   have ep : prd (c :: r) = match rsz s r with
     | none => none
     | some (n, k) => if (r.drop k).length < n then none else if x < 192 ∧ n = 1 ∧ Sp.bz (r.drop k) 0 < 128 then none else some (1 + k, 1 + k + n, lf) := by
    unfold prd
    simp only [hx0]; rw [if_neg h128, ← hs, ← hlf]
   by_cases h48 : s < 48
   ·have er : rsz s r = some (s, 0) := by unfold rsz; rw [if_pos h48]
    rw [er] at ep; simp only [List.drop_zero, Nat.add_zero] at ep; have d4 : decide (48 ≤ (s : Int)) = false := decide_eq_false (by omega); have e5 : Hid (wrap64 (((c :: r).length : Int) - 1) = (r.length : Int)) := by show _ = _; rw [int_wr _ (by omega) (by omega)]; omega
    have e6 : Hid (wrap64 (1 + (s : Int)) = ((1 + s : Nat) : Int)) := by show _ = _; rw [int_wr _ (by omega) (by omega)]; omega
    by_cases hf : r.length < s
    ·rw [if_pos hf] at ep; rw [ep, prv_none]; have d5 : decide ((r.length : Int) < (s : Int)) = true := decide_eq_true (by omega); cases lf
     ·exact lift (pread_sfar_false g off _ cap x s r.length w d0 d1 c0 e1.out d2 d3 e3.out e4 d4 e5.out d5)
     ·exact lift (pread_sfar_true g off _ cap x s r.length w d0 d1 c0 e1.out d2 d3 e3.out e4 d4 e5.out d5)
    ·rw [if_neg hf] at ep; have d5 : decide ((r.length : Int) < (s : Int)) = false := decide_eq_false (by omega); cases lf
     ·have h192 : x < 192 := by
       rcases Nat.lt_or_ge x 192 with h | h
       ·exact h
       ·rw [decide_eq_true h] at hlf; cases hlf
      by_cases s1 : s = 1
      ·have d6 : ((s : Int) == 1) = true := beq_iff_eq.2 (by omega); have l1 : (1 : Int) < ((c :: r).length : Int) := by omega
       have c1 : w.cell? ⟨g, off + 1, none⟩ = some (.int .u8 (Sp.bz r 0)) := (hcell 1 (by omega)).trans (by rfl); by_cases hy : Sp.bz r 0 < 128
       ·rw [if_pos ⟨h192, s1, hy⟩] at ep; rw [ep, prv_none]; exact lift (pread_sone g off _ cap x s r.length _ w d0 d1 c0 e1.out d2 d3 e3.out e4 d4 e5.out d5 d6 l1 c1 (decide_eq_true hy))
       ·rw [if_neg (fun h => hy h.2.2)] at ep
        rw [ep, prv_1]; exact lift (pread_shigh g off _ cap x s r.length _ _ w d0 d1 c0 e1.out d2 d3 e3.out e4 d4 e5.out e6.out d5 d6 l1 c1 (decide_eq_false hy))
      ·have d6 : ((s : Int) == 1) = false := beq_false_of_ne (by omega); rw [if_neg (fun h => s1 h.2.1)] at ep
       rw [ep, prv_1]; exact lift (pread_stext g off _ cap x s r.length _ w d0 d1 c0 e1.out d2 d3 e3.out e4 d4 e5.out d5 e6.out d6)
     ·have h192 : ¬ x < 192 := fun h => by rw [decide_eq_false (by omega)] at hlf; cases hlf
      rw [if_neg (fun h => h192 h.1)] at ep
      rw [ep, prv_1]; exact lift (pread_slist g off _ cap x s r.length _ w d0 d1 c0 e1.out d2 d3 e3.out e4 d4 e5.out d5 e6.out)
   ·have d4 : decide (48 ≤ (s : Int)) = true := decide_eq_true (by omega); obtain ⟨k, hk⟩ : ∃ k, k = s - 47 := ⟨_, rfl⟩; have e7 : Hid (wrap64 ((s : Int) - 47) = (k : Int)) := by show _ = _; rw [int_wr _ (by omega) (by omega)]; omega
    by_cases h8 : 8 < k
    ·rw [rsz_k8 s r (by omega) (by omega)] at ep; rw [ep, prv_none]; have d8 : decide (8 < (k : Int)) = true := decide_eq_true (by omega); cases lf
     ·exact pread_k8_false g off _ cap x s k w d0 d1 c0 e1.out d2 d3 e3.out e4 d4 e7.out d8
     ·exact pread_k8_true g off _ cap x s k w d0 d1 c0 e1.out d2 d3 e3.out e4 d4 e7.out d8
    ·have d8 : decide (8 < (k : Int)) = false := decide_eq_false (by omega); have e8 : Hid (wrap64 (1 + (k : Int)) = ((1 + k : Nat) : Int)) := by show _ = _; rw [int_wr _ (by omega) (by omega)]; omega
     by_cases ht : r.length < k
     ·have er : rsz s r = none := by unfold rsz; rw [if_neg h48, ← hk, if_pos ht]
      rw [er] at ep; rw [ep, prv_none]; have d9 : decide (((c :: r).length : Int) < ((1 + k : Nat) : Int)) = true := decide_eq_true (by omega); cases lf
      ·exact pread_torn_false g off _ cap x s k _ w d0 d1 c0 e1.out d2 d3 e3.out e4 d4 e7.out d8 e8.out d9
      ·exact pread_torn_true g off _ cap x s k _ w d0 d1 c0 e1.out d2 d3 e3.out e4 d4 e7.out d8 e8.out d9
     ·have d9 : decide (((c :: r).length : Int) < ((1 + k : Nat) : Int)) = false := decide_eq_false (by omega); have ltk : (r.take k).length = k := by rw [List.length_take]; omega
      have ldk : (r.drop k).length = r.length - k := List.length_drop ..; have j1 : (1 : Int) ≤ ((1 + k : Nat) : Int) := by omega
      have j2 : ((1 + k : Nat) : Int) ≤ (cap : Int) := by omega
      have j3 : (1 : Int) < (cap : Int) := by omega
      have ej : (((1 + k : Nat) : Int).toNat - 1) = k := by omega
      have ST : ∀ wx : World, Below w.heap.size w wx → Sl (r.take k) (.slice (some ⟨g, off + 1, none⟩) ((((1 + k : Nat) : Int)).toNat - 1) (cap - 1)) wx := fun wx hwx => by
       refine ⟨some ⟨g, off + 1, none⟩, cap - 1, by rw [ej, ltk], by rw [ltk]; omega, fun _ => ⟨g, off + 1, rfl, Nat.lt_of_lt_of_le hg hwx.size, fun j hj => ?_⟩⟩
       rw [ltk] at hj; have h1 := hcell (j + 1) (by omega); rw [hwx.cell (p := ⟨g, off + 1 + j, none⟩) hg, show off + 1 + j = off + (j + 1) by omega, h1, bz_take r k j hj]; rfl
      by_cases hC : Cb (r.take k)
      ·have hN : Nb (r.take k) := ⟨by omega, hC⟩; obtain ⟨n, hn⟩ : ∃ n, n = vb 0 (r.take k) := ⟨_, rfl⟩; have hn64 : n < 18446744073709551616 := by rw [hn]; exact vb_64 _ (by omega)
       have KT : Hid (Calls Try.prog 58 #[.slice (some ⟨g, off + 1, none⟩) ((((1 + k : Nat) : Int)).toNat - 1) (cap - 1)] w fun e w' => e = .returned (.tuple #[.agg #[.int .u64 (n : Int), .int .u64 (dg n 1), .int .u64 (dg n 2), .int .u64 (dg n 3)], .int .i64 0]) ∧ Below w.heap.size w w') := (ptonum_any (by rw [ltk]; omega) (ST w (Below.refl _ _))).mono fun e w' he => by
        obtain ⟨c', n', rfl, ⟨_, rfl, rfl⟩ | ⟨h1, _, _⟩, hb⟩ := he
        ·rw [← hn, Wd, dg_small n hn64]; exact ⟨rfl, hb⟩
        ·exact absurd hN h1
       have KP : Hid (∀ wx : World, Calls Try.prog 59 #[.agg #[.int .u64 (n : Int), .int .u64 (dg n 1), .int .u64 (dg n 2), .int .u64 (dg n 3)]] wx fun e w' => ∃ (a3 : Option Addr) (c3 : Nat), e = .returned (.slice a3 k c3) ∧ Below wx.heap.size wx w') := fun wx => by
        have kk := pnum_any n wx; rw [Wd, dg_small n hn64] at kk; refine kk.mono fun e w' he => ?_
        obtain ⟨v, rfl, ⟨a3, c3, rfl, _, _⟩, hb⟩ := he; rw [hn, nu_back _ hC (by omega), ltk]; exact ⟨a3, c3, rfl, hb⟩
       have er : rsz s r = if n < 48 then none else if (r.drop k).length < n then none else some (n, k) := by
        unfold rsz
        rw [if_neg h48, ← hk, if_neg ht, if_neg hC, ← hn]
       clear ST hcell hn hC hN vw; by_cases hn48 : n < 48
       ·rw [if_pos hn48] at er; rw [er] at ep; rw [ep, prv_none]; exact pread_tlow g off _ cap lf x s k _ _ _ _ _ w d0 d1 c0 e1.out d2 d3 e3.out e4 d4 e7.out d8 e8.out d9 j1 j2 j3 KT (decide_eq_true (by omega))
       ·rw [if_neg hn48] at er; have f1 : decide ((n : Int) < 48) = false := decide_eq_false (by omega); have u1 : Hid (IntKind.u64.wrap ((c :: r).length : Int) = ((c :: r).length : Int)) := u64_wr _ (by omega) (by omega); by_cases hnL : (c :: r).length < n
        ·rw [if_pos (by omega)] at er; rw [er] at ep; rw [ep, prv_none]; exact pread_tgreat g off _ cap lf x s k _ _ _ _ _ w d0 d1 c0 e1.out d2 d3 e3.out e4 d4 e7.out d8 e8.out d9 j1 j2 j3 KT f1 u1.out (decide_eq_true (by omega))
        ·have f2 : decide (((c :: r).length : Int) < (n : Int)) = false := decide_eq_false (by omega); have e9 : Hid (wrap64 (n : Int) = (n : Int)) := int_wr _ (by omega) (by omega); have eM : Hid (wrap64 (((c :: r).length : Int) - ((1 + k : Nat) : Int)) = ((r.drop k).length : Int)) := by show _ = _; rw [int_wr _ (by omega) (by omega)]; omega
         have d10 : ((k : Int) != (k : Int)) = false := by simp
         by_cases hfar : (r.drop k).length < n
         ·rw [if_pos hfar] at er; rw [er] at ep; rw [ep, prv_none]; exact pread_lfar g off _ cap k lf x s k _ _ _ _ _ _ w d0 d1 c0 e1.out d2 d3 e3.out e4 d4 e7.out d8 e8.out d9 j1 j2 j3 KT f1 u1.out f2 KP e9.out eM.out d10 (decide_eq_true (by omega))
         ·rw [if_neg hfar] at er; rw [er] at ep; simp only [if_neg hfar] at ep; rw [if_neg (fun h => absurd h.2.1 (by omega))] at ep
          rw [ep, prv_some]; have f3 : decide (((r.drop k).length : Int) < (n : Int)) = false := decide_eq_false (by omega); have eT : Hid (wrap64 (((1 + k : Nat) : Int) + (n : Int)) = ((1 + k + n : Nat) : Int)) := by show _ = _; rw [int_wr _ (by omega) (by omega)]; omega
          cases lf
          ·exact pread_ltext g off _ cap k x s k _ _ _ _ _ _ _ w d0 d1 c0 e1.out d2 d3 e3.out e4 d4 e7.out d8 e8.out d9 j1 j2 j3 KT f1 u1.out f2 KP e9.out eM.out d10 f3 eT.out (beq_false_of_ne (by omega))
          ·exact pread_llist g off _ cap k x s k _ _ _ _ _ _ _ w d0 d1 c0 e1.out d2 d3 e3.out e4 d4 e7.out d8 e8.out d9 j1 j2 j3 KT f1 u1.out f2 KP e9.out eM.out d10 f3 eT.out
      ·have hC' : (r.take k).head? = some 0 := by
        apply Classical.byContradiction
        intro h; exact hC h
       have er : rsz s r = none := by
        unfold rsz
        rw [if_neg h48, ← hk, if_neg ht, if_pos hC']
       rw [er] at ep; rw [ep, prv_none]; have KT : Hid (Calls Try.prog 58 #[.slice (some ⟨g, off + 1, none⟩) ((((1 + k : Nat) : Int)).toNat - 1) (cap - 1)] w fun e w' => e = .returned (.tuple #[.agg #[.int .u64 (dg 0 0), .int .u64 (dg 0 1), .int .u64 (dg 0 2), .int .u64 (dg 0 3)], .int .i64 1]) ∧ Below w.heap.size w w') := (ptonum_any (by rw [ltk]; omega) (ST w (Below.refl _ _))).mono fun e w' he => by
        obtain ⟨c', n', rfl, ⟨h1, _, _⟩ | ⟨_, rfl, rfl⟩, hb⟩ := he
        ·exact absurd h1.2 hC
        ·exact ⟨rfl, hb⟩
       exact pread_terr g off _ cap lf x s k _ _ _ _ _ w d0 d1 c0 e1.out d2 d3 e3.out e4 d4 e7.out d8 e8.out d9 j1 j2 j3 KT
end Pk
end Go.Proofs.Ytlbdaccmnpcccaa
namespace Go.Proofs.Ytlbdaccmnpcccaa
namespace Pk
open Go.RowKit
theorem ritem_drop {b r : List UInt8} {t : It} (h : ritem b = some (t, r)) : r = b.drop (b.length - r.length) := by
 have key : ∃ m, m ≤ b.length ∧ r = b.drop m := by
  cases b with
  | nil => simp [ritem, rit] at h
  | cons c q =>
   unfold ritem rit at h
   dsimp only at h; split at h
   ·simp only [Option.some.injEq, Prod.mk.injEq] at h; exact ⟨1, by simp, h.2.symm⟩
   ·split at h
    ·cases hr : rtx (c.toNat - 128) q with
     | none => rw [hr] at h; simp at h
     | some p =>
      rw [hr] at h; simp only [Option.map_some, Option.some.injEq, Prod.mk.injEq] at h; unfold rtx at hr
      split at hr
      ·cases hr
      ·rename_i n k hz
       split at hr
       ·cases hr
       ·split at hr
        ·cases hr
        ·rename_i h1 h2
         simp only [Option.some.injEq] at hr; subst hr; refine ⟨1 + k + n, ?_, ?_⟩
         ·have : k ≤ q.length := by
           unfold rsz at hz
           split at hz
           ·simp only [Option.some.injEq, Prod.mk.injEq] at hz; omega
           ·split at hz
            ·cases hz
            ·split at hz
             ·cases hz
             ·split at hz
              ·cases hz
              ·split at hz
               ·cases hz
               ·simp only [Option.some.injEq, Prod.mk.injEq] at hz; omega
          rw [List.length_drop] at h1; rw [List.length_cons]; omega
         ·rw [← h.2, List.drop_drop, show 1 + k + n = (k + n) + 1 by omega, List.drop_succ_cons]
    ·split at h
     ·cases h
     ·rename_i n k hz
      split at h
      ·cases h
      ·rename_i h1
       cases hr : rkids ((q.drop k).take n) with
       | none => rw [hr] at h; simp at h
       | some ks =>
        rw [hr] at h; simp only [Option.map_some, Option.some.injEq, Prod.mk.injEq] at h; refine ⟨1 + k + n, ?_, ?_⟩
        ·have : k ≤ q.length := by
          unfold rsz at hz
          split at hz
          ·simp only [Option.some.injEq, Prod.mk.injEq] at hz; omega
          ·split at hz
           ·cases hz
           ·split at hz
            ·cases hz
            ·split at hz
             ·cases hz
             ·split at hz
              ·cases hz
              ·simp only [Option.some.injEq, Prod.mk.injEq] at hz; omega
         rw [List.length_drop] at h1; rw [List.length_cons]; omega
        ·rw [← h.2, List.drop_drop, show 1 + k + n = (k + n) + 1 by omega, List.drop_succ_cons]
 obtain ⟨m, hm, e⟩ := key; have hl : r.length = b.length - m := by rw [e, List.length_drop]
 rw [show b.length - r.length = m by omega]; exact e
theorem rsz_le {s n k : Nat} {q : List UInt8} (hz : rsz s q = some (n, k)) : k ≤ q.length := by
 unfold rsz at hz
 split at hz
 ·simp only [Option.some.injEq, Prod.mk.injEq] at hz; omega
 ·split at hz
  ·cases hz
  ·split at hz
   ·cases hz
   ·split at hz
    ·cases hz
    ·split at hz
     ·cases hz
     ·simp only [Option.some.injEq, Prod.mk.injEq] at hz; omega
theorem sp_none {b : List UInt8} (h : prd b = none) : sp b = (It.no, 0, 1) := by
 have e : ritem b = none := by
  cases b with
  | nil => rfl
  | cons c q =>
   have h8 := UInt8.toNat_lt c; unfold prd at h
   dsimp only at h; unfold ritem rit
   dsimp only
   split at h
   ·cases h
   ·rename_i h1
    rw [if_neg h1]; by_cases h2 : c.toNat < 192
    ·rw [if_pos h2]; rw [show (c.toNat - 128) % 64 = c.toNat - 128 by omega] at h; unfold rtx
     cases hz : rsz (c.toNat - 128) q with
     | none => rfl
     | some p =>
      obtain ⟨n, k⟩ := p; rw [hz] at h; dsimp only at h ⊢; split at h
      ·rename_i h3; rw [if_pos h3]; rfl
      ·rename_i h3
       rw [if_neg h3]; split at h
       ·rename_i h4; rw [if_pos h4.2]; rfl
       ·cases h
    ·rw [if_neg h2]; rw [show (c.toNat - 128) % 64 = c.toNat - 192 by omega] at h; cases hz : rsz (c.toNat - 192) q with
     | none => rfl
     | some p =>
      obtain ⟨n, k⟩ := p; rw [hz] at h; dsimp only at h ⊢; split at h
      ·rename_i h3; rw [if_pos h3]
      ·split at h
       ·rename_i h4; exact absurd h4.1 h2
       ·cases h
 unfold sp
 rw [e]
theorem prd_some {b : List UInt8} {f t : Nat} {l : Bool} (h : prd b = some (f, t, l)) : f ≤ t ∧ t ≤ b.length ∧ (l = false → sp b = (.mk false ((b.take t).drop f) [], (t : Int), 0)) ∧ (l = true → 1 ≤ f ∧ ritem b = (rkids ((b.take t).drop f)).map fun ks => (.mk true [] ks, b.drop t)) := by
 cases b with
 | nil => cases h
 | cons c q =>
  have h8 := UInt8.toNat_lt c; unfold prd at h
  dsimp only at h; split at h
  ·rename_i h1
   simp only [Option.some.injEq, Prod.mk.injEq] at h; obtain ⟨rfl, rfl, rfl⟩ := h; refine ⟨by omega, by simp, fun _ => ?_, nofun⟩
   unfold sp ritem rit
   dsimp only
   rw [if_pos h1]; simp
   omega
  ·rename_i h1
   cases hz : rsz ((c.toNat - 128) % 64) q with
   | none => rw [hz] at h; cases h
   | some p =>
    obtain ⟨n, k⟩ := p; have hk := rsz_le hz; rw [hz] at h; dsimp only at h; split at h
    ·cases h
    ·rename_i h3
     rw [List.length_drop] at h3; split at h
     ·cases h
     ·rename_i h4
      simp only [Option.some.injEq, Prod.mk.injEq] at h; obtain ⟨rfl, rfl, rfl⟩ := h; have ed : ((c :: q).take (1 + k + n)).drop (1 + k) = (q.drop k).take n := by
       rw [List.drop_take, show 1 + k + n - (1 + k) = n by omega, show 1 + k = k + 1 by omega, List.drop_succ_cons]
      have er : (q.drop k).drop n = (c :: q).drop (1 + k + n) := by
       rw [List.drop_drop, show 1 + k + n = (k + n) + 1 by omega, List.drop_succ_cons]
      refine ⟨by omega, by rw [List.length_cons]; omega, fun hl => ?_, fun hl => ⟨by omega, ?_⟩⟩
      ·have h2 : c.toNat < 192 := by simpa using hl
       rw [show (c.toNat - 128) % 64 = c.toNat - 128 by omega] at hz; unfold sp ritem rit
       dsimp only
       rw [if_neg h1, if_pos h2]; unfold rtx
       rw [hz]; dsimp only
       rw [if_neg (by rw [List.length_drop]; exact h3), if_neg (fun h5 => h4 ⟨h2, h5⟩)]
       simp only [Option.map_some, Prod.mk.injEq, It.mk.injEq, true_and, and_true]; rw [ed]; refine ⟨rfl, ?_⟩; rw [er, List.length_drop, List.length_cons]; omega
      ·have h2 : ¬ c.toNat < 192 := by
        have : 192 ≤ c.toNat := by simpa using hl
        omega
       rw [show (c.toNat - 128) % 64 = c.toNat - 192 by omega] at hz; conv => lhs; unfold ritem rit
       dsimp only
       rw [if_neg h1, if_neg h2, hz]; dsimp only
       rw [if_neg (by rw [List.length_drop]; exact h3), ed, er]
set_option maxHeartbeats 400000 in
set_option maxRecDepth 100000 in
theorem ptext_any (a : Option Addr) (n c : Nat) (w : World) : Calls Try.prog 49 #[.slice a n c] w fun e w' => e = .returned (.agg #[.bool false, .slice a n c, .slice none 0 0]) ∧ Below w.heap.size w w' := by
 have x0 := B3_new w; have l0 : Below w.heap.size w (w.alloc (.cells #[.bool false, .slice none 0 0, .slice none 0 0] 59)) := (Below.refl _ _).alloc (Nat.le_refl _) _; go_enter Try.func49, Try.ntmps49
 go_upto_region 1 with fail
 generalize w.alloc (.cells #[.bool false, .slice none 0 0, .slice none 0 0] 59) = W0 at *; go_wp2_with (refine wpList_st3b rfl rfl rfl rfl x0 ?_)
 intro w2 g2 b2 z0 z1 z2; have l2 : Hid (Below w.heap.size w w2) := l0.trans ⟨g2.os, g2.tape, g2.output, g2.size, fun j hj => g2.block j (by have := l0.size; omega) (fun e => by injection e with e; omega)⟩
 clear g2 b2 x0 l0; go_wp2_with fail
 exact bodyPost_ret (resI _ _ _ w.heap.size 2 _ _ _ rfl rfl z0 z1 z2) rfl ⟨rfl, l2.out⟩
set_option maxHeartbeats 400000 in
set_option maxRecDepth 100000 in
theorem plist_any (w : World) : Calls Try.prog 50 #[.slice none 0 0] w fun e w' => e = .returned (.agg #[.bool true, .slice none 0 0, .slice none 0 0]) ∧ Below w.heap.size w w' := by
 have x0 := B3_new w; have l0 : Below w.heap.size w (w.alloc (.cells #[.bool false, .slice none 0 0, .slice none 0 0] 59)) := (Below.refl _ _).alloc (Nat.le_refl _) _; go_enter Try.func50, Try.ntmps50
 go_upto_region 1 with fail
 generalize w.alloc (.cells #[.bool false, .slice none 0 0, .slice none 0 0] 59) = W0 at *; go_wp2_with (refine wpList_st3b rfl rfl rfl rfl x0 ?_)
 intro w2 g2 b2 z0 z1 z2; have l2 : Hid (Below w.heap.size w w2) := l0.trans ⟨g2.os, g2.tape, g2.output, g2.size, fun j hj => g2.block j (by have := l0.size; omega) (fun e => by injection e with e; omega)⟩
 clear g2 b2 x0 l0; go_wp2_with fail
 exact bodyPost_ret (resI _ _ _ w.heap.size 2 _ _ _ rfl rfl z0 z1 z2) rfl ⟨rfl, l2.out⟩
end Pk
end Go.Proofs.Ytlbdaccmnpcccaa
namespace Go.Proofs.Ytlbdaccmnpcccaa
namespace Nb
open Go.RowKit
theorem and15 : ∀ x : Fin 256, bits .and .u8 ((x.val : Nat) : Int) 15 = ((x.val % 16 : Nat) : Int) := by decide +kernel
theorem hv_take (b : List UInt8) (k : Nat) (h : k < b.length) : hv (b.take (k + 1)) = hv (b.take k) ++ [UInt8.ofNat ((b.getD k 0).toNat / 16), UInt8.ofNat ((b.getD k 0).toNat % 16)] := by
 induction b generalizing k with
 | nil => simp at h
 | cons c r ih =>
  cases k with
  | zero => simp [hv]
  | succ k =>
   rw [List.take_succ_cons, List.take_succ_cons, hv, hv, ih k (by simp only [List.length_cons] at h; omega)]
   simp
theorem bcs_hv (b : List UInt8) (k : Nat) (h : k < b.length) : Pk.bcs (hv (b.take k)) ++ [.int .u8 (Sp.bz b k / 16), .int .u8 (Sp.bz b k % 16)] = Pk.bcs (hv (b.take (k + 1))) := by
 have hl := UInt8.toNat_lt (b.getD k 0); rw [hv_take b k h, Pk.bcs_app]; congr 1
 simp only [Pk.bcs, List.map_cons, List.map_nil]; rw [of_lt _ (by omega), of_lt _ (by omega)]; simp only [Sp.bz]; congr 2
theorem room2 (k n : Nat) (h : k < n) (hn : Hid (n ≤ 2097152)) : 2 * k + 2 ≤ maxLen ∧ (2 * k + 2) * 1 ≤ 140737488355328 := by
 have := hn.out; unfold maxLen
 omega
set_option maxHeartbeats 1000000 in
set_option maxRecDepth 100000 in
theorem halves_any (b : List UInt8) (ao : Option Addr) (cap : Nat) (w : World) (hn : Hid (b.length ≤ 2097152)) (vw : Sp.Vw b ao w) :
  Calls Try.prog 8 #[.slice ao b.length cap] w fun e w' => ∃ v, e = .returned v ∧ w'.ownsRow w.heap.size 5 1 v (hv b).length (Pk.bcs (hv b)) ∧ Below w.heap.size w w' := by
 obtain ⟨i0, hi, hz0, hz1, hz2⟩ := info_parts Pk.Try.infoU8'; have hmk : ∃ w', (Instr.makeSlice 24 (.int .i64 0) (.int .i64 (2 * (b.length : Int)))).run Try.prog w = .ok (.slice (some ⟨w.heap.size, 0, none⟩) 0 (2 * b.length)) w' ∧ w'.ownsRow w.heap.size 5 1 (.slice (some ⟨w.heap.size, 0, none⟩) 0 (2 * b.length)) 0 [] ∧ w.grownBy w' none := by
  have hn' := hn.out; have h := run_make_own (P := Try.prog) w w.heap.size 24 5 i0 (.int .u8 0) 1 Try.underlying24 hi hz0 hz1 .i64 .i64 (2 * b.length) (by rw [hz2]; omega) (by unfold maxLen; omega) (Nat.le_refl _)
  rwa [show ((2 * b.length : Nat) : Int) = 2 * (b.length : Int) by omega] at h
 have hw2 : Hid (wrap64 (2 * (b.length : Int)) = 2 * (b.length : Int)) := by
  have hn' := hn.out; show _ = _
  unfold wrap64; omega
 obtain ⟨w1, hr, o1, hgr⟩ := hmk; have b1 : Below w.heap.size w w1 := (Below.refl _ _).grown hgr (Nat.le_refl _) (fun k hk => by cases hk)
 have HV : Hid (Sp.Vw b ao w) := vw; clear vw; go_enter Try.func8, Try.ntmps8
 have hw := hw2.out; go_wp2_with fail
 clear hw hw2 hr hgr; go_loopw [3, 12] (fun v i wr => ∃ k : Nat, k ≤ b.length ∧ i = .int .i64 (k : Int) ∧ wr.ownsRow w.heap.size 5 1 v (2 * k) (Pk.bcs (hv (b.take k))) ∧ Below w.heap.size w wr) (fun _ i _ => ((b.length : Int) - intOf i).toNat)
 case atStart => exact ⟨0, Nat.zero_le _, rfl, o1, b1⟩
 case round =>
  clear o1 b1; obtain ⟨k, hk, rfl, o2, b2⟩ := hrel; by_cases h1 : k < b.length
  ·have d1 : decide ((k : Int) < (b.length : Int)) = true := decide_eq_true (by omega); obtain ⟨g, off, rfl, hg, hc⟩ := HV.out (by omega); have c0 := (b2.cell (p := ⟨g, off + k, none⟩) hg).trans (hc k h1); have hw := stp k (by have := hn.out; show _ ≤ _; omega)
   have hand : bits .and .u8 (Sp.bz b k) 15 = Sp.bz b k % 16 := by
    have h := and15 ⟨(Sp.bz b k).toNat, by have := Sp.bz_lt b k; omega⟩
    dsimp only at h; rw [Int.toNat_of_nonneg (Sp.bz_nn b k)] at h; rw [h]; have := Sp.bz_nn b k; omega
   have HE : Hid (Pk.bcs (hv (b.take k)) ++ [.int .u8 (Sp.bz b k / 16), .int .u8 (Sp.bz b k % 16)] = Pk.bcs (hv (b.take (k + 1)))) := bcs_hv b k h1; have HR := room2 k b.length h1 hn; have HR1 : Hid (2 * k + 2 ≤ maxLen) := HR.1; have HR2 : Hid ((2 * k + 2) * 1 ≤ 140737488355328) := HR.2; have HX : Hid (0 ≤ Sp.bz b k ∧ Sp.bz b k < 256) := ⟨Sp.bz_nn b k, Sp.bz_lt b k⟩; clear HR hc; generalize Sp.bz b k = X at *; generalize Pk.bcs (hv (b.take k)) = L1 at *; go_wp2_with (at_builtin; refine wpList_append_own _ rfl _ _ 24 rfl w.heap.size 5 i0 (.int .u8 0) 1 1 Try.underlying24 hi hz0 hz1 hz2 rfl (by decide) _ (2 * k) _ rfl (o2.alloc _) ⟨wr.heap.size, 0, none⟩ 2 2 [.int .u8 (X / 16), .int .u8 (X % 16)] rfl rfl ?c1 ?c2 HR1.out HR2.out ?c5 ?_)
   case c1 =>
    intro j u hj; match j, hj with
    | 0, hj => cases hj; simp [go_sem]
    | 1, hj => cases hj; simp [go_sem]
   case c2 =>
    intro u hu; simp only [List.mem_cons, List.not_mem_nil, or_false] at hu; rcases hu with rfl | rfl <;> rfl
   case c5 => have := b2.size; simp; omega
   intro v' w4 hown' hgrow _; have b4 : Below w.heap.size w w4 := (b2.alloc b2.size _).grown hgrow (by have := b2.size; simp; omega) (fun k hk => (o2.lt k hk).1)
   have R : Hid (w4.ownsRow w.heap.size 5 1 v' (2 * (k + 1)) (Pk.bcs (hv (b.take (k + 1))))) := by
    have e := hown'; rw [HE.out] at e; exact e
   clear hown' hgrow o2 b2; go_wp2_with fail
   have hw := hw.out; go_roundw
   case rel => exact ⟨k + 1, h1, step_v k _ hw, R.out, b4⟩
   case measure => exact msr k b.length h1 _ hw
  ·have hkl : k = b.length := by omega
   subst hkl; rw [List.take_length] at o2; go_wp2_with fail
   go_ret
   exact ⟨_, rfl, by rw [hv_len]; exact o2, b2⟩
set_option maxHeartbeats 1000000 in
set_option maxRecDepth 100000 in
theorem nhalves_any (b : List UInt8) (ao : Option Addr) (cap : Nat) (w : World) (hn : Hid (b.length ≤ 2097152)) (vw : Sp.Vw b ao w) :
  Calls Try.prog 11 #[.slice ao b.length cap] w fun e w' => ∃ v, e = .returned v ∧ w'.ownsRow w.heap.size 5 1 v (hv b).length (Pk.bcs (hv b)) ∧ Below w.heap.size w w' := by
 obtain ⟨m, hm⟩ : ∃ m, m = 2 * b.length := ⟨_, rfl⟩; have HM : Hid (m = 2 * b.length) := hm; obtain ⟨w1, hr, hs1, o1, b1⟩ := made m (by have := hn.out; show _ ≤ _; omega) w
 have hw2 : Hid (wrap64 (2 * (b.length : Int)) = (m : Int)) := by
  have hn' := hn.out; show _ = _
  unfold wrap64; omega
 have H2 : Hid (∀ i, i < b.length → Sp.bz (hv b) (2 * i) = Sp.bz b i / 16 ∧ Sp.bz (hv b) (2 * i + 1) = Sp.bz b i % 16) := hv_get b; have HV : Hid (Sp.Vw b ao w) := vw; have HF : Hid (fil (Sp.bz (hv b)) m m = Pk.bcs (hv b)) := by
  show _ = _
  rw [hm, ← hv_len, fil_full]
 have HL : Hid ((hv b).length = m) := by show _ = _; rw [hv_len, hm]
 rw [HL.out]; clear vw hm; generalize Pk.bcs (hv b) = L at *; generalize Sp.bz (hv b) = G at *; go_enter Try.func11, Try.ntmps11
 have hw := hw2.out; go_wp2_with fail
 clear hw hw2 hr; go_loopw [11] (fun i wr => ∃ k : Nat, k ≤ m ∧ i = .int .i64 (k : Int) ∧ wr.ownsRow w.heap.size 5 1 (.slice (some ⟨w.heap.size, 0, none⟩) m m) m (fil G k m) ∧ Below w.heap.size w wr) (fun i _ => ((m : Int) - intOf i).toNat)
 case atStart => exact ⟨0, Nat.zero_le _, rfl, by rw [fil_0]; exact o1, b1⟩
 case round =>
  clear o1 b1 hs1; obtain ⟨k, hk, rfl, o2, b2⟩ := hrel; by_cases h1 : k < m
  ·have d1 : decide ((k : Int) < (m : Int)) = true := decide_eq_true (by omega); obtain ⟨t, ht⟩ : ∃ t, t = k / 2 := ⟨_, rfl⟩; have ht1 : t < b.length := by have := HM.out; omega
   obtain ⟨g, off, rfl, hg, hc⟩ := HV.out (by omega); have c0 := (b2.cell (p := ⟨g, off + t, none⟩) hg).trans (hc t ht1); have hw := stp k (by have := hn.out; have := HM.out; show _ ≤ _; omega)
   have hwk : wrap64 ((k : Int) / 2) = (t : Int) := by
    have := hn.out; have := HM.out; unfold wrap64; omega
   have ce := World.ownsRow.cellAt o2 k (by omega); rw [fil_at G k m k h1] at ce; have hfro : wr.frozen? ⟨w.heap.size, k, none⟩ = false := World.ownsRow.frozenAt o2 k; have HX : 0 ≤ Sp.bz b t ∧ Sp.bz b t < 256 := ⟨Sp.bz_nn b t, Sp.bz_lt b t⟩; have HG := H2.out t ht1; have H7 : Hid (g ≠ w.heap.size) := by show _ ≠ _; omega
   by_cases e : k % 2 = 1
   ·have d2 : ((k : Int) % 2 == 1) = true := beq_iff_eq.2 (by omega); have HS : Hid (fil G (k + 1) m = ((fil G k m).set k (.int .u8 (Sp.bz b t / 16))).set k (.int .u8 (Sp.bz b t % 16))) := by
     show _ = _
     rw [fil_set2 G k m h1 (.int .u8 (Sp.bz b t / 16)), ← HG.2, show 2 * t + 1 = k by omega]
    clear HG hc ht e; generalize Sp.bz b t = X at *; go_wp2_with fail
    have hw := hw.out; refine ⟨⟨k + 1, h1, step_v k _ hw, ?_, (b2.setCell (Nat.le_refl _) _).setCell (Nat.le_refl _) _⟩, msr k m h1 _ hw⟩; rw [HS.out]; exact ((o2.stored k _).1.stored k _).1
   ·have d2 : ((k : Int) % 2 == 1) = false := beq_false_of_ne (by omega); have HS : Hid (fil G (k + 1) m = (fil G k m).set k (.int .u8 (Sp.bz b t / 16))) := by
     show _ = _
     rw [fil_step G k m h1, ← HG.1, show 2 * t = k by omega]
    clear HG hc ht e; generalize Sp.bz b t = X at *; go_wp2_with fail
    have hw := hw.out; refine ⟨⟨k + 1, h1, step_v k _ hw, ?_, b2.setCell (Nat.le_refl _) _⟩, msr k m h1 _ hw⟩; rw [HS.out]; exact (o2.stored k _).1
  ·have hkl : k = m := by omega
   subst hkl; rw [HF.out] at o2; go_wp2_with fail
   go_ret
   exact ⟨_, rfl, o2, b2⟩
end Nb
end Go.Proofs.Ytlbdaccmnpcccaa
namespace Go.Proofs.Ytlbdaccmnpcccaa
namespace Nb
open Go.RowKit
def NJ (c0 c1 c2 c3 c4 c5 c6 c7 c8 c9 c10 c11 c12 c13 c14 c15 c16 c17 c18 c19 c20 c21 c22 c23 c24 c25 c26 c27 c28 c29 c30 c31 : Value) (w : World) (m : Nat) (L : List Value) (X : List UInt8) (A B : ByteArray) (z : Bool) (d : Nat → Bool) (x : Act) (wx : World) : Prop :=
 ∃ (u32 u33 u34 u35 u36 u37 : Value), x = { tmps := #[c0, c1, c2, c3, c4, c5, c6, c7, c8, c9, c10, c11, c12, c13, c14, c15, c16, c17, c18, c19, c20, c21, c22, c23, c24, c25, c26, c27, c28, c29, c30, c31, u32, u33, u34, u35, u36, u37, undef], defers := [] } ∧ (wx.ownsRow w.heap.size 5 1 c4 m L ∧ Below w.heap.size w wx) ∧ (d 0 = true → u32 = c4) ∧ (d 2 = true → u34 = .string A) ∧ (d 3 = true → u35 = c0) ∧ (d 4 = true → u36 = .string B) ∧ (d 5 = true → u37 = .bool z) ∧ (d 1 = true → Pk.Sl X u33 wx)
set_option maxHeartbeats 1000000 in
set_option maxRecDepth 100000 in
theorem njoin_any (p : List UInt8) (ao : Option Addr) (cap : Nat) (w : World) (hn : Hid (p.length ≤ 4194304)) (hcap : p.length ≤ cap) (vw : Sp.Vw p ao w) :
  Calls Try.prog 51 #[.slice ao p.length cap] w fun e w' => ((JF p ∧ ∃ v, e = .returned (.tuple #[v, .int .i64 0]) ∧ w'.ownsRow w.heap.size 5 1 v (jn p).length (Pk.bcs (jn p))) ∨ (¬ JF p ∧ e = .returned (.tuple #[.slice none 0 0, .int .i64 1]))) ∧ Below w.heap.size w w' := by
 obtain ⟨m, hm⟩ : ∃ m, m = p.length / 2 := ⟨_, rfl⟩; have HM : Hid (m = p.length / 2) := hm; obtain ⟨w1, hr, hs1, o1, b1⟩ := made m (by have := hn.out; show _ ≤ _; omega) w
 have hw2 : Hid (wrap64 ((p.length : Int) / 2) = (m : Int)) := by
  have hn' := hn.out; show _ = _
  unfold wrap64; omega
 have H2 : Hid (∀ i, i < m → Sp.bz (jn p) i = (Sp.bz p (2 * i) * 16 + Sp.bz p (2 * i + 1)) % 256) := by rw [hm]; exact jn_get p
 have HV : Hid (Sp.Vw p ao w) := vw; have HF : Hid (fil (Sp.bz (jn p)) m m = Pk.bcs (jn p)) := by
  show _ = _
  rw [hm, ← jn_length, fil_full]
 have HL : Hid ((jn p).length = m) := by show _ = _; rw [jn_length, hm]
 have KN : Hid (∀ wx : World, wx.ownsRow w.heap.size 5 1 (.slice (some ⟨w.heap.size, 0, none⟩) m m) m (Pk.bcs (jn p)) → Calls Try.prog 11 #[.slice (some ⟨w.heap.size, 0, none⟩) m m] wx fun e w' => ∃ v, e = .returned v ∧ Pk.Sl (hv (jn p)) v w' ∧ Below wx.heap.size wx w') := fun wx ho => by
  have hs : Pk.Sl (jn p) (.slice (some ⟨w.heap.size, 0, none⟩) m m) wx := Pk.own_sl (base := w.heap.size) (by rw [HL.out]; exact ho)
  obtain ⟨a2, c2, e2, _, v2⟩ := hs; cases e2
  exact (nhalves_any (jn p) _ _ wx (by have := hn.out; rw [show Hid ((jn p).length ≤ 2097152) = ((jn p).length ≤ 2097152) from rfl, jn_length]; omega) v2).mono fun e w' he => by
   obtain ⟨v, h1, h2, h3⟩ := he; exact ⟨v, h1, Pk.own_sl h2, h3⟩
 have HC : Hid (∀ wx : World, Below w.heap.size w wx → (convert 24 9 (.slice ao p.length cap)).run Try.prog wx = .ok (.string ⟨p.toArray⟩) wx) := fun wx hb => Pk.Sl_conv ⟨ao, cap, rfl, hcap, Sp.Vw_below vw hb⟩
 rw [HL.out]; clear vw hm hcap; generalize Pk.bcs (jn p) = L at *; generalize Sp.bz (jn p) = G at *; go_enter Try.func51, Try.ntmps51
 have hw := hw2.out; go_wp2_with fail
 clear hw hw2 hr; go_loopw [12] (fun i wr => ∃ k : Nat, k ≤ m ∧ i = .int .i64 (k : Int) ∧ wr.ownsRow w.heap.size 5 1 (.slice (some ⟨w.heap.size, 0, none⟩) m m) m (fil G k m) ∧ Below w.heap.size w wr) (fun i _ => ((m : Int) - intOf i).toNat)
 case atStart => exact ⟨0, Nat.zero_le _, rfl, by rw [fil_0]; exact o1, b1⟩
 case round =>
  clear o1 b1 hs1; obtain ⟨k, hk, rfl, o2, b2⟩ := hrel; by_cases h1 : k < m
  ·have d1 : decide ((k : Int) < (m : Int)) = true := decide_eq_true (by omega); obtain ⟨t, ht⟩ : ∃ t, t = 2 * k := ⟨_, rfl⟩; obtain ⟨r, hr⟩ : ∃ r, r = t + 1 := ⟨_, rfl⟩; have ht1 : t < p.length := by have := HM.out; omega
   have hr1 : r < p.length := by have := HM.out; omega
   obtain ⟨g, off, rfl, hg, hc⟩ := HV.out (by omega); have c0 : wr.drew.cell? ⟨g, off + t, none⟩ = some (.int .u8 (Sp.bz p t)) := (b2.drew.cell (p := ⟨g, off + t, none⟩) hg).trans (hc t ht1); have c1 : wr.drew.cell? ⟨g, off + r, none⟩ = some (.int .u8 (Sp.bz p r)) := (b2.drew.cell (p := ⟨g, off + r, none⟩) hg).trans (hc r hr1); have hw := stp k (by have := hn.out; have := HM.out; show _ ≤ _; omega)
   have hwt : IntKind.i64.wrap (2 * (k : Int)) = (t : Int) := by
    have := hn.out; have := HM.out; rw [IntKind.wrap_i64]; omega
   have hwr : IntKind.i64.wrap ((t : Int) + 1) = (r : Int) := by
    have := hn.out; have := HM.out; rw [IntKind.wrap_i64]; omega
   have o3 := o2.drew; have b3 := b2.drew; have ce := World.ownsRow.cellAt o3 k (by omega); rw [fil_at G k m k h1] at ce; have hfro : wr.drew.frozen? ⟨w.heap.size, k, none⟩ = false := World.ownsRow.frozenAt o3 k; have HX : 0 ≤ Sp.bz p t ∧ Sp.bz p t < 256 := ⟨Sp.bz_nn p t, Sp.bz_lt p t⟩; have HY : 0 ≤ Sp.bz p r ∧ Sp.bz p r < 256 := ⟨Sp.bz_nn p r, Sp.bz_lt p r⟩; have HG := H2.out k h1; rw [← ht, ← hr] at HG; obtain ⟨V, hV⟩ : ∃ V, V = G k := ⟨_, rfl⟩; have HS : Hid (fil G (k + 1) m = (fil G k m).set k (.int .u8 V)) := by
    show _ = _
    rw [fil_step G k m h1, hV]
   have hwx : IntKind.u8.wrap (Sp.bz p t * 16) = Sp.bz p t * 16 % 256 := by
    rw [IntKind.wrap_u8]
   have hor : IntKind.u8.wrap (Sp.bz p t * 16 % 256 + Sp.bz p r) = V := by
    rw [IntKind.wrap_u8, hV, HG]; omega
   have HT : Hid (t = 2 * k ∧ r = t + 1) := ⟨ht, hr⟩; clear hV HG hc ht hr; generalize Sp.bz p t = X at *; generalize Sp.bz p r = Y at *; go_upto_region 5 with fail
   refine RS.wp_region_two (fun wx => Hid (wx = wr.drew)) (fun wx => Hid (wx = (wr.setCell ⟨w.heap.size, k, none⟩ (.int .u8 V)).drew)) 16 (by kernel_rfl) (by kernel_rfl) (by decide) (rfl) ?_
   dsimp only [List.toList_toArray]
   iterate 6
    refine RS.go2 (v := ?_) (a' := ?_) (by decide) rfl ?_ ?_ ?_; rotate_left 2
    ·intro K wx hS hK; go_simp; exact hK _ hS
    ·simp only [Act.put, zA, zB, zC]; rfl
   refine RS.go2 (v := ?_) (a' := ?_) (by decide) rfl ?_ ?_ ?_; rotate_left 2
   ·intro K wx hS hK; obtain rfl := hS.out; go_simp; exact hK _ rfl
   ·simp only [Act.put, zA, zB, zC]; rfl
   iterate 6
    refine RS.go2 (v := ?_) (a' := ?_) (by decide) rfl ?_ ?_ ?_; rotate_left 2
    ·intro K wx hS hK; go_simp; exact hK _ hS
    ·simp only [Act.put, zA, zB, zC]; rfl
   refine RS.go2 (v := ?_) (a' := ?_) (by decide) rfl ?_ ?_ ?_; rotate_left 2
   ·intro K wx hS hK; obtain rfl := hS.out; go_simp; exact hK _ rfl
   ·simp only [Act.put, zA, zB, zC]; rfl
   iterate 2
    refine RS.go2 (v := ?_) (a' := ?_) (by decide) rfl ?_ ?_ ?_; rotate_left 2
    ·intro K wx hS hK; go_simp; exact hK _ hS
    ·simp only [Act.put, zA, zB, zC]; rfl
   refine RS.go2_last (v := ?_) (a' := ?_) rfl (by kernel_rfl) rfl ?_ ?_ ?_; rotate_left 2
   ·intro K wx hS hK; obtain rfl := hS.out; go_simp; exact hK _ rfl
   ·exact rfl
   intro w9 hw9; have o9 : w9.ownsRow w.heap.size 5 1 (.slice (some ⟨w.heap.size, 0, none⟩) m m) m (fil G (k + 1) m) := by
    rw [hw9.out, HS.out]; exact (o2.stored k _).1.drew
   have b9 : Below w.heap.size w w9 := by
    rw [hw9.out]; exact (b2.setCell (Nat.le_refl _) _).drew
   clear o2 o3 b2 b3 ce hfro hw9 c0 c1 hwt hwr; go_wp2_with fail
   have hw := hw.out; go_roundw
   case rel => exact ⟨k + 1, h1, step_v k _ hw, o9, b9⟩
   case measure => exact msr k m h1 _ hw
  ·have hkl : k = m := by omega
   subst hkl; rw [HF.out] at o2; have HI : Hid (JF p ↔ hv (jn p) = p) := jf_iff p; obtain ⟨zz, HZ⟩ : ∃ zz, Hid ((hv (jn p) == p) = !zz) := ⟨!(hv (jn p) == p), by show _ = _; simp⟩
   go_upto_region 7 with fail
   refine RI.wp_region_inv (NJ (.slice ao p.length cap) undef (.slice none 0 0) (.int .i64 0) (.slice (some ⟨w.heap.size, 0, none⟩) k k) u5 (.slice ao p.length cap) (.int .i64 (p.length : Int)) (.int .i64 (wrap64 ((p.length : Int) / 2))) (.slice (some ⟨w.heap.size, 0, none⟩) k k) (.slice (some ⟨w.heap.size, 0, none⟩) k k) (.int .i64 (k : Int)) (.int .i64 (k : Int)) (.bool false) u14 u15 u16 u17 u18 u19 u20 u21 u22 u23 u24 u25 u26 u27 u28 u29 u30 u31 w k L (hv (jn p)) ⟨(hv (jn p)).toArray⟩ ⟨p.toArray⟩ zz) (by kernel_rfl) (by kernel_rfl) ?_ ?_ ?_
   ·exact ⟨undef, undef, undef, undef, undef, undef, rfl, ⟨o2.drew, b2.drew⟩, nofun, nofun, nofun, nofun, nofun, nofun⟩
   ·skip
    intro d x wx i hI hi hm; obtain ⟨u32, u33, u34, u35, u36, u37, rfl, hw, p0, p2, p3, p4, p5, q1⟩ := hI; have hi' : i = 0 ∨ i = 1 ∨ i = 2 ∨ i = 3 ∨ i = 4 ∨ i = 5 := by simp at hi; omega
    have hd := hm.2; clear hm hi; rcases hi' with rfl | rfl | rfl | rfl | rfl | rfl
    ·refine RI.wpOp_plain rfl rfl ?_; go_simp; exact ⟨_, u33, u34, u35, u36, u37, rfl, hw, fun _ => rfl, RI.keep (by decide) p2, RI.keep (by decide) p3, RI.keep (by decide) p4, RI.keep (by decide) p5, RI.keep (by decide) q1⟩
    ·have hd := hd _ rfl; simp [Region.binds] at hd
     obtain rfl := p0 (by simp [hd]); refine RI.wpOp_plain rfl rfl ?_; go_simp; refine (KN.out _ hw.1).mono ?_; rintro e w1 ⟨v1, rfl, hs1, hb1⟩; exact ⟨_, _, u34, u35, u36, u37, rfl, ⟨Pk.ownb hw.1 hb1, hw.2.trans (hb1.mono hw.2.size)⟩, RI.keep (by decide) p0, RI.keep (by decide) p2, RI.keep (by decide) p3, RI.keep (by decide) p4, RI.keep (by decide) p5, fun _ => hs1⟩
    ·have hd := hd _ rfl; simp [Region.binds] at hd
     refine RI.wpOp_plain rfl rfl ?_; have hcv := Pk.Sl_conv (q1 (by simp [hd])); go_simp; exact ⟨u32, u33, _, u35, u36, u37, rfl, hw, RI.keep (by decide) p0, fun _ => rfl, RI.keep (by decide) p3, RI.keep (by decide) p4, RI.keep (by decide) p5, RI.keep (by decide) q1⟩
    ·refine RI.wpOp_plain rfl rfl ?_; go_simp; exact ⟨u32, u33, u34, _, u36, u37, rfl, hw, RI.keep (by decide) p0, RI.keep (by decide) p2, fun _ => rfl, RI.keep (by decide) p4, RI.keep (by decide) p5, RI.keep (by decide) q1⟩
    ·have hd := hd _ rfl; simp [Region.binds] at hd
     obtain rfl := p3 (by simp [hd]); refine RI.wpOp_plain rfl rfl ?_; have hcv := HC.out _ hw.2; go_simp; exact ⟨u32, u33, u34, _, _, u37, rfl, hw, RI.keep (by decide) p0, RI.keep (by decide) p2, RI.keep (by decide) p3, fun _ => rfl, RI.keep (by decide) p5, RI.keep (by decide) q1⟩
    ·have hd := hd _ rfl; simp [Region.binds] at hd
     obtain rfl := p2 (by simp [hd]); obtain rfl := p4 (by simp [hd]); refine RI.wpOp_plain rfl rfl ?_; have hz := HZ.out; go_simp; exact ⟨u32, u33, _, u35, _, _, rfl, hw, RI.keep (by decide) p0, RI.keep (by decide) p2, RI.keep (by decide) p3, RI.keep (by decide) p4, fun _ => rfl, RI.keep (by decide) q1⟩
   ·skip
    intro d x wx hI hd; obtain ⟨u32, u33, u34, u35, u36, u37, rfl, hw, p0, p2, p3, p4, p5, q1⟩ := hI; obtain ⟨o9, b9⟩ := hw; have e5 := p5 (hd 5 (by decide)); subst e5; clear p0 p2 p3 p4 p5 q1 hd o2 b2; by_cases e : hv (jn p) = p
    ·have HJ : Hid (JF p) := HI.out.2 e; have hz : zz = false := by have := HZ.out; rw [e] at this; simpa using this
     subst hz; clear e HI HZ; go_wp2_with fail
     go_ret2
     exact ⟨.inl ⟨HJ.out, _, rfl, o9⟩, b9⟩
    ·have HJ : Hid (¬ JF p) := fun h => e (HI.out.1 h)
     have hz : zz = true := by have := HZ.out; rw [beq_false_of_ne e] at this; simpa using this
     subst hz; clear e HI HZ; go_wp2_with fail
     go_ret2
     exact ⟨.inr ⟨HJ.out, rfl⟩, b9⟩
end Nb
end Go.Proofs.Ytlbdaccmnpcccaa
namespace Go.Proofs.Ytlbdaccmnpcccaa
namespace Nb
open Go.RowKit
def jl (p : List UInt8) : List UInt8 := if hv (jn p) = p then jn p else []
def je (p : List UInt8) : Int := if hv (jn p) = p then 0 else 1
theorem jl_yes {p : List UInt8} (h : JF p) : jl p = jn p := by unfold jl; rw [if_pos (hv_jn p h)]
theorem je_yes {p : List UInt8} (h : JF p) : je p = 0 := by unfold je; rw [if_pos (hv_jn p h)]
theorem jl_no {p : List UInt8} (h : ¬ JF p) : jl p = [] := by unfold jl; rw [if_neg (fun e => h ((jf_iff p).2 e))]
theorem je_no {p : List UInt8} (h : ¬ JF p) : je p = 1 := by unfold je; rw [if_neg (fun e => h ((jf_iff p).2 e))]
theorem njoin_sl (p : List UInt8) (ao : Option Addr) (cap : Nat) (w : World) (hn : Hid (p.length ≤ 4194304)) (hcap : p.length ≤ cap) (vw : Sp.Vw p ao w) :
  Calls Try.prog 51 #[.slice ao p.length cap] w fun e w' => ∃ v, e = .returned (.tuple #[v, .int .i64 (je p)]) ∧ Pk.Sl (jl p) v w' ∧ Below w.heap.size w w' :=
 (njoin_any p ao cap w hn hcap vw).mono fun e w' he => by
  obtain ⟨⟨h, v, h1, h2⟩ | ⟨h, h1⟩, h3⟩ := he
  ·rw [jl_yes h, je_yes h]; exact ⟨v, h1, Pk.own_sl h2, h3⟩
  ·rw [jl_no h, je_no h]; exact ⟨_, h1, Pk.Sl_nil _, h3⟩
end Nb
end Go.Proofs.Ytlbdaccmnpcccaa
namespace Go.Proofs.Ytlbdaccmnpcccaa
namespace Nb
open Go.RowKit
theorem wpList_apq {P : Program} {ops : Array Oper} {rest : List Oper} {o : Oper} {a : Act} {Q : Exit → Act → World → Prop} {s x : Operand} {t u : TypeId} {v v2 v' : Value} {w w' : World} (hgd : o.guard = none) (ho : o.op = .call { callee := .builtin .append, args := #[s, x], argTypes := #[t, u] }) (hs : a.eval s = v) (hx : a.eval x = v2)
  (hr : (Builtin.append_ #[t, u] o.type #[v, v2]).run P w = .ok v' w') (h : wpList P ops Q rest (a.put o.dst v') w') : wpList P ops Q (o :: rest) a w := by
 refine wpList_plain hgd fun _ hK => ?_
 unfold Oper.wp execOp
 simp only [ho, resolve, invoke, builtin, Sem.run_bind, Sem.run_pure, Result.andThen_ok, List.map_toArray, List.map_cons, List.map_nil, hs, hx, hr]; exact hK _ _ h
theorem own_lit (l : List UInt8) (w : World) (B : Nat) (h : B ≤ w.heap.size) (hl : l.length ≤ 64) : (w.alloc (.cells (Pk.bcs l).toArray 5)).ownsRow B 5 1 (.slice (some ⟨w.heap.size, 0, none⟩) l.length l.length) l.length (Pk.bcs l) := by
 have k := World.ownsRow_lit (size := 1) (e := 5) w (Pk.bcs l).toArray l.length h (by unfold maxLen; omega) (by simp [Pk.bcs_len])
 simpa using k
end Nb
end Go.Proofs.Ytlbdaccmnpcccaa
namespace Go.Proofs.Ytlbdaccmnpcccaa
namespace Nb
open Go.RowKit
set_option maxHeartbeats 1000000 in
set_option maxRecDepth 100000 in
theorem ntag_true_odd (p : List UInt8) (ap : Option Addr) (cp : Nat) (w : World) (hn : Hid (p.length ≤ 4194300)) (hcp : p.length ≤ cp) (vp : Sp.Vw p ap w) (ho : p.length % 2 = 1) :
  Calls Try.prog 36 #[.slice ap p.length cp, .bool true] w fun e w' => ∃ v, e = .returned (.tuple #[v, .int .i64 (je (tg p true))]) ∧ Pk.Sl (jl (tg p true)) v w' ∧ Below w.heap.size w w' := by
 have oA : (w.alloc (.cells #[.int .u8 3] 5)).ownsRow w.heap.size 5 1 (.slice (some ⟨w.heap.size, 0, none⟩) 1 1) 1 (Pk.bcs [3]) := own_lit [3] w w.heap.size (Nat.le_refl _) (by decide); have bA : Below w.heap.size w (w.alloc (.cells #[.int .u8 3] 5)) := (Below.refl _ _).alloc (Nat.le_refl _) _; have sP : Pk.Sl p (.slice ap p.length cp) (w.alloc (.cells #[.int .u8 3] 5)) := Pk.Sl_below ⟨ap, cp, rfl, hcp, vp⟩ bA; have et : tg p true = [3] ++ p := by unfold tg hd; rw [if_pos ho]; rfl
 obtain ⟨v', w', hap, hown, hbel⟩ := Pk.app_sl (x := [3]) 24 oA sP (by simp) (by have := hn.out; simp only [List.length_cons, List.length_nil]; omega)
 rw [← et] at hown; obtain ⟨a3, c3, rfl, hc3, v3⟩ := Pk.own_sl hown; have bb : Below w.heap.size w w' := bA.trans hbel; have KJ : Hid (Calls Try.prog 51 #[.slice a3 (tg p true).length c3] w' fun e w'' => ∃ v, e = .returned (.tuple #[v, .int .i64 (je (tg p true))]) ∧ Pk.Sl (jl (tg p true)) v w'' ∧ Below w'.heap.size w' w'') := njoin_sl (tg p true) a3 c3 w' (by have := hn.out; have := tg_len p true; show _ ≤ _; omega) hc3 v3
 have hpar : ((p.length : Int) % 2 == 1) = true := beq_iff_eq.2 (by omega); clear et hown hc3 v3 sP oA bA vp hcp hn ho hbel; generalize (tg p true).length = m at *; generalize je (tg p true) = c at *; generalize jl (tg p true) = T at *; generalize p.length = n at *; go_enter Try.func36, Try.ntmps36
 go_wp2_with (at_builtin; refine wpList_apq rfl rfl rfl rfl hap ?_)
 refine KJ.out.mono (fun e w2 he => ?_)
 obtain ⟨v2, rfl, s2, b2⟩ := he; have b4 := bb.trans (b2.mono bb.size); go_wp2_with fail
 go_ret2
 exact ⟨_, rfl, s2, b4⟩
set_option maxHeartbeats 1000000 in
set_option maxRecDepth 100000 in
theorem ntag_true_even (p : List UInt8) (ap : Option Addr) (cp : Nat) (w : World) (hn : Hid (p.length ≤ 4194300)) (hcp : p.length ≤ cp) (vp : Sp.Vw p ap w) (ho : p.length % 2 = 0) :
  Calls Try.prog 36 #[.slice ap p.length cp, .bool true] w fun e w' => ∃ v, e = .returned (.tuple #[v, .int .i64 (je (tg p true))]) ∧ Pk.Sl (jl (tg p true)) v w' ∧ Below w.heap.size w w' := by
 have oA : (w.alloc (.cells #[.int .u8 2, .int .u8 0] 5)).ownsRow w.heap.size 5 1 (.slice (some ⟨w.heap.size, 0, none⟩) 2 2) 2 (Pk.bcs [2, 0]) := own_lit [2, 0] w w.heap.size (Nat.le_refl _) (by decide); have bA : Below w.heap.size w (w.alloc (.cells #[.int .u8 2, .int .u8 0] 5)) := (Below.refl _ _).alloc (Nat.le_refl _) _; have sP : Pk.Sl p (.slice ap p.length cp) (w.alloc (.cells #[.int .u8 2, .int .u8 0] 5)) := Pk.Sl_below ⟨ap, cp, rfl, hcp, vp⟩ bA; have et : tg p true = [2, 0] ++ p := by unfold tg hd; rw [if_neg (by omega)]; rfl
 obtain ⟨v', w', hap, hown, hbel⟩ := Pk.app_sl (x := [2, 0]) 24 oA sP (by simp) (by have := hn.out; simp only [List.length_cons, List.length_nil]; omega)
 rw [← et] at hown; obtain ⟨a3, c3, rfl, hc3, v3⟩ := Pk.own_sl hown; have bb : Below w.heap.size w w' := bA.trans hbel; have KJ : Hid (Calls Try.prog 51 #[.slice a3 (tg p true).length c3] w' fun e w'' => ∃ v, e = .returned (.tuple #[v, .int .i64 (je (tg p true))]) ∧ Pk.Sl (jl (tg p true)) v w'' ∧ Below w'.heap.size w' w'') := njoin_sl (tg p true) a3 c3 w' (by have := hn.out; have := tg_len p true; show _ ≤ _; omega) hc3 v3
 have hpar : ((p.length : Int) % 2 == 1) = false := beq_false_of_ne (by omega); clear et hown hc3 v3 sP oA bA vp hcp hn ho hbel; generalize (tg p true).length = m at *; generalize je (tg p true) = c at *; generalize jl (tg p true) = T at *; generalize p.length = n at *; go_enter Try.func36, Try.ntmps36
 go_wp2_with (at_builtin; refine wpList_apq rfl rfl rfl rfl hap ?_)
 refine KJ.out.mono (fun e w2 he => ?_)
 obtain ⟨v2, rfl, s2, b2⟩ := he; have b4 := bb.trans (b2.mono bb.size); go_wp2_with fail
 go_ret2
 exact ⟨_, rfl, s2, b4⟩
set_option maxHeartbeats 1000000 in
set_option maxRecDepth 100000 in
theorem ntag_false_odd (p : List UInt8) (ap : Option Addr) (cp : Nat) (w : World) (hn : Hid (p.length ≤ 4194300)) (hcp : p.length ≤ cp) (vp : Sp.Vw p ap w) (ho : p.length % 2 = 1) :
  Calls Try.prog 36 #[.slice ap p.length cp, .bool false] w fun e w' => ∃ v, e = .returned (.tuple #[v, .int .i64 (je (tg p false))]) ∧ Pk.Sl (jl (tg p false)) v w' ∧ Below w.heap.size w w' := by
 have oA : (w.alloc (.cells #[.int .u8 1] 5)).ownsRow w.heap.size 5 1 (.slice (some ⟨w.heap.size, 0, none⟩) 1 1) 1 (Pk.bcs [1]) := own_lit [1] w w.heap.size (Nat.le_refl _) (by decide); have bA : Below w.heap.size w (w.alloc (.cells #[.int .u8 1] 5)) := (Below.refl _ _).alloc (Nat.le_refl _) _; have sP : Pk.Sl p (.slice ap p.length cp) (w.alloc (.cells #[.int .u8 1] 5)) := Pk.Sl_below ⟨ap, cp, rfl, hcp, vp⟩ bA; have et : tg p false = [1] ++ p := by unfold tg hd; rw [if_pos ho]; rfl
 obtain ⟨v', w', hap, hown, hbel⟩ := Pk.app_sl (x := [1]) 24 oA sP (by simp) (by have := hn.out; simp only [List.length_cons, List.length_nil]; omega)
 rw [← et] at hown; obtain ⟨a3, c3, rfl, hc3, v3⟩ := Pk.own_sl hown; have bb : Below w.heap.size w w' := bA.trans hbel; have KJ : Hid (Calls Try.prog 51 #[.slice a3 (tg p false).length c3] w' fun e w'' => ∃ v, e = .returned (.tuple #[v, .int .i64 (je (tg p false))]) ∧ Pk.Sl (jl (tg p false)) v w'' ∧ Below w'.heap.size w' w'') := njoin_sl (tg p false) a3 c3 w' (by have := hn.out; have := tg_len p false; show _ ≤ _; omega) hc3 v3
 have hpar : ((p.length : Int) % 2 == 1) = true := beq_iff_eq.2 (by omega); clear et hown hc3 v3 sP oA bA vp hcp hn ho hbel; generalize (tg p false).length = m at *; generalize je (tg p false) = c at *; generalize jl (tg p false) = T at *; generalize p.length = n at *; go_enter Try.func36, Try.ntmps36
 go_wp2_with (at_builtin; refine wpList_apq rfl rfl rfl rfl hap ?_)
 refine KJ.out.mono (fun e w2 he => ?_)
 obtain ⟨v2, rfl, s2, b2⟩ := he; have b4 := bb.trans (b2.mono bb.size); go_wp2_with fail
 go_ret2
 exact ⟨_, rfl, s2, b4⟩
set_option maxHeartbeats 1000000 in
set_option maxRecDepth 100000 in
theorem ntag_false_even (p : List UInt8) (ap : Option Addr) (cp : Nat) (w : World) (hn : Hid (p.length ≤ 4194300)) (hcp : p.length ≤ cp) (vp : Sp.Vw p ap w) (ho : p.length % 2 = 0) :
  Calls Try.prog 36 #[.slice ap p.length cp, .bool false] w fun e w' => ∃ v, e = .returned (.tuple #[v, .int .i64 (je (tg p false))]) ∧ Pk.Sl (jl (tg p false)) v w' ∧ Below w.heap.size w w' := by
 have oA : (w.alloc (.cells #[.int .u8 0, .int .u8 0] 5)).ownsRow w.heap.size 5 1 (.slice (some ⟨w.heap.size, 0, none⟩) 2 2) 2 (Pk.bcs [0, 0]) := own_lit [0, 0] w w.heap.size (Nat.le_refl _) (by decide); have bA : Below w.heap.size w (w.alloc (.cells #[.int .u8 0, .int .u8 0] 5)) := (Below.refl _ _).alloc (Nat.le_refl _) _; have sP : Pk.Sl p (.slice ap p.length cp) (w.alloc (.cells #[.int .u8 0, .int .u8 0] 5)) := Pk.Sl_below ⟨ap, cp, rfl, hcp, vp⟩ bA; have et : tg p false = [0, 0] ++ p := by unfold tg hd; rw [if_neg (by omega)]; rfl
 obtain ⟨v', w', hap, hown, hbel⟩ := Pk.app_sl (x := [0, 0]) 24 oA sP (by simp) (by have := hn.out; simp only [List.length_cons, List.length_nil]; omega)
 rw [← et] at hown; obtain ⟨a3, c3, rfl, hc3, v3⟩ := Pk.own_sl hown; have bb : Below w.heap.size w w' := bA.trans hbel; have KJ : Hid (Calls Try.prog 51 #[.slice a3 (tg p false).length c3] w' fun e w'' => ∃ v, e = .returned (.tuple #[v, .int .i64 (je (tg p false))]) ∧ Pk.Sl (jl (tg p false)) v w'' ∧ Below w'.heap.size w' w'') := njoin_sl (tg p false) a3 c3 w' (by have := hn.out; have := tg_len p false; show _ ≤ _; omega) hc3 v3
 have hpar : ((p.length : Int) % 2 == 1) = false := beq_false_of_ne (by omega); clear et hown hc3 v3 sP oA bA vp hcp hn ho hbel; generalize (tg p false).length = m at *; generalize je (tg p false) = c at *; generalize jl (tg p false) = T at *; generalize p.length = n at *; go_enter Try.func36, Try.ntmps36
 go_wp2_with (at_builtin; refine wpList_apq rfl rfl rfl rfl hap ?_)
 refine KJ.out.mono (fun e w2 he => ?_)
 obtain ⟨v2, rfl, s2, b2⟩ := he; have b4 := bb.trans (b2.mono bb.size); go_wp2_with fail
 go_ret2
 exact ⟨_, rfl, s2, b4⟩
theorem ntag_sl (p : List UInt8) (leaf : Bool) (ap : Option Addr) (cp : Nat) (w : World) (hn : Hid (p.length ≤ 4194300)) (hcp : p.length ≤ cp) (vp : Sp.Vw p ap w) :
  Calls Try.prog 36 #[.slice ap p.length cp, .bool leaf] w fun e w' => ∃ v, e = .returned (.tuple #[v, .int .i64 (je (tg p leaf))]) ∧ Pk.Sl (jl (tg p leaf)) v w' ∧ Below w.heap.size w w' := by
 by_cases h : p.length % 2 = 1
 ·cases leaf
  ·exact ntag_false_odd p ap cp w hn hcp vp h
  ·exact ntag_true_odd p ap cp w hn hcp vp h
 ·cases leaf
  ·exact ntag_false_even p ap cp w hn hcp vp (by omega)
  ·exact ntag_true_even p ap cp w hn hcp vp (by omega)
end Nb
end Go.Proofs.Ytlbdaccmnpcccaa
namespace Go.Proofs.Ytlbdaccmnpcccaa
namespace Rs
open Nb Sp Pk Go.RowKit
set_option maxHeartbeats 400000 in
set_option maxRecDepth 100000 in
theorem plist_sl (a : Option Addr) (n c : Nat) (w : World) : Calls Try.prog 50 #[.slice a n c] w fun e w' => e = .returned (.agg #[.bool true, .slice none 0 0, .slice a n c]) ∧ Below w.heap.size w w' := by
 have x0 := B3_new w; have l0 : Below w.heap.size w (w.alloc (.cells #[.bool false, .slice none 0 0, .slice none 0 0] 59)) := (Below.refl _ _).alloc (Nat.le_refl _) _; go_enter Try.func50, Try.ntmps50
 go_upto_region 1 with fail
 generalize w.alloc (.cells #[.bool false, .slice none 0 0, .slice none 0 0] 59) = W0 at *; go_wp2_with (refine wpList_st3b rfl rfl rfl rfl x0 ?_)
 intro w2 g2 b2 z0 z1 z2; have l2 : Hid (Below w.heap.size w w2) := l0.trans ⟨g2.os, g2.tape, g2.output, g2.size, fun j hj => g2.block j (by have := l0.size; omega) (fun e => by injection e with e; omega)⟩
 clear g2 b2 x0 l0; go_wp2_with fail
 exact bodyPost_ret (resI _ _ _ w.heap.size 2 _ _ _ rfl rfl z0 z1 z2) rfl ⟨rfl, l2.out⟩
def itS (s : Shp) : It :=
 if s.1 = 1 then .mk true [] [.mk false (jl (tg s.2.1 true)) [], .mk false s.2.2.1 []]
 else if s.1 = 2 then .mk true [] [.mk false (jl (tg s.2.1 false)) [], .mk false (s.2.2.2.getD 0 []) []]
 else if s.1 = 3 then .mk true [] ((s.2.2.2 ++ [s.2.2.1]).map fun b => .mk false b [])
 else .mk false [] []
end Rs
end Go.Proofs.Ytlbdaccmnpcccaa
