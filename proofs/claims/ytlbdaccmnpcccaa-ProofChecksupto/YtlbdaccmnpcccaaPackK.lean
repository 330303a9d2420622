import Derived.Test.YtlbdaccmnpcccaaPackJ
import Derived.Test.YtlbdaccmnpcccaaPackI
import Derived.Test.YtlbdaccmnpcccaaPackF
import Derived.Laws.CopyOwn
import Derived.Test.YtlbdaccmnpcccaaPackD
import Derived.Test.YtlbdaccmnpcccaaPackC
import Derived.Test.YtlbdaccmnpcccaaPackE
import Derived.Test.YtlbdaccmnpcccaaPackG
import Derived.Test.YtlbdaccmnpcccaaPackA
import Derived.Laws.BitsAllLaws
namespace Go.Proofs.Ytlbdaccmnpcccaa
namespace Pf
open Rs Go.RowKit Sp
theorem row_rng {h : Nat} {F : Nat → Int} {w : World} {T : TypeId} (hh : w.heap[h]? = some (.cells (h32 F).toArray T (0, 0))) : w.rangeAt h 0 (h32 F) := fun j v hv => by
 simp only [World.cell?, hh, Nat.zero_add]; rw [List.getElem?_toArray, hv]; exact if_neg (by decide)
theorem row_gb {h gw : Nat} {w w' : World} {o : Obj} (hh : w.heap[h]? = some o) (hl : h < w.heap.size) (hg : w.grownBy w' (some gw)) (hne : h ≠ gw) : w'.heap[h]? = some o := (hg.block h hl (fun e => hne (by injection e))).trans hh
theorem Lz_gb {G : Nat} {ps : List Bs} {v : Value} {w w' : World} (h : Lz ps v w) (hG : NB G w) (hv : 0 < ps.length → v.ownBlock ≠ some G) (hg : w.grownBy w' (some G)) : Lz ps v w' := by
 obtain ⟨ao, cap, h1, hc, h3⟩ := h; refine ⟨ao, cap, h1, hc, fun h0 => ?_⟩
 obtain ⟨g, off, e, hlt, hcc⟩ := h3 h0; have n1 : g ≠ G := fun e2 => by subst e2; apply hv h0; rw [h1, e]; rfl
 refine ⟨g, off, e, Nat.lt_of_lt_of_le hlt hg.size, fun i hi => ?_⟩
 obtain ⟨bo, c, k1, k2, k3⟩ := hcc i hi; exact ⟨bo, c, (World.cell?_of_block (a := ⟨g, off + i, none⟩) (hg.block g hlt (fun e3 => by injection e3 with e3; exact n1 e3))).trans k1, k2, Sl_gb k3 hG hg⟩
theorem gb_up {w a b : World} {g G : Nat} (h : w.grownBy a (some g)) (k : a.grownBy b (some G)) (hG : w.heap.size ≤ G) : w.grownBy b (some g) :=
 ⟨k.os.trans h.os, k.tape.trans h.tape, k.output.trans h.output, Nat.le_trans h.size k.size, fun j hj hne => (k.block j (Nat.lt_of_lt_of_le hj h.size) (fun e => by injection e with e; omega)).trans (h.block j hj hne)⟩
theorem cp_row (K : Bs) (F : Nat → Int) (h : K.length = 32) : ((h32 F).toArray.toList.take 0 ++ (Pk.bcs K ++ (h32 F).toArray.toList.drop (0 + (Pk.bcs K).length))).toArray = (h32 (bz K)).toArray := by
 rw [Pk.bcs_len, h]; have e1 : (h32 F).toArray.toList.drop (0 + 32) = [] := List.drop_eq_nil_of_le (by simp [h32_length]); rw [e1, List.take_zero, List.nil_append, List.append_nil]; congr 1
 refine List.ext_getElem? (fun j => ?_)
 by_cases hj : j < 32
 ·rw [h32_get _ _ hj]; simp [Pk.bcs, bz, h, hj]
 ·rw [List.getElem?_eq_none (by rw [Pk.bcs_len]; omega), List.getElem?_eq_none (by rw [h32_length]; omega)]
theorem gb_setRow (w : World) (g : Nat) (cs : Array Value) : w.grownBy (w.setRow g cs) (some g) := ⟨rfl, rfl, rfl, by simp [World.setRow], fun k _ hk => setRow_other w g k cs (fun e => hk (by rw [e]))⟩
def nw (gw : Nat) (w : World) : Int := intOf ((w.cell? ⟨gw, 1, none⟩).getD undef)
theorem nw_of {gw : Nat} {w : World} {x : Int} (h : w.cell? ⟨gw, 1, none⟩ = some (.int .i64 x)) : nw gw w = x := by
 unfold nw
 rw [h]; rfl
theorem pd_no {cs : List Bs} {n : Nat} {F : Nat → Int} {left : Bs} {z : Int} (h : one cs n F = .inl z) : pd (cs.drop n) (decide (n = 0)) F left = .inl z := by
 unfold one at h
 split at h
 ·rename_i e; rw [e, pd]; exact congrArg Sum.inl (Sum.inl.inj h)
 ·rename_i c r e
  rw [e, pd]; split at h
  ·rename_i h1; rw [if_pos h1]; exact congrArg Sum.inl (Sum.inl.inj h)
  ·rename_i h1
   rw [if_neg h1]; split at h
   ·rename_i h2
    rw [if_pos (by rcases h2 with h2 | ⟨h2, h3⟩; exact .inl h2; exact .inr ⟨decide_eq_false h2, h3⟩)]
    exact congrArg Sum.inl (Sum.inl.inj h)
   ·cases h
theorem pd_go {cs : List Bs} {n : Nat} {F : Nat → Int} {s : Shp} (h : one cs n F = .inr s) : n < cs.length ∧ isS s = true ∧ ∀ left, pd (cs.drop n) (decide (n = 0)) F left = match nx s left with
  | some (k, rest) => pd (cs.drop (n + 1)) (decide (n + 1 = 0)) (Sp.bz k) rest
  | none => .inr (s, left, cs.drop (n + 1)) := by
 unfold one at h
 split at h
 ·cases h
 ·rename_i c r e
  have hn : n < cs.length := by
   have := congrArg List.length e; rw [List.length_drop] at this; simp at this
   omega
  have er : cs.drop (n + 1) = r := by
   rw [← List.drop_drop, e]; rfl
  split at h
  ·cases h
  ·rename_i h1
   split at h
   ·cases h
   ·rename_i h2
    have hs : (rdS c).1 = s := Sum.inr.inj h; have h0 : (rdS c).2 = 0 := Classical.byContradiction fun h3 => h2 (.inl h3)
    refine ⟨hn, hs ▸ rdS_isS h0, fun left => ?_⟩
    rw [e, pd, if_neg h1, if_neg (by rintro (h3 | ⟨h3, h4⟩); exact h2 (.inl h3); exact h2 (.inr ⟨of_decide_eq_false h3, h4⟩)), hs, er]
    rfl
theorem one_z {cs : List Bs} {n : Nat} {F : Nat → Int} {z : Int} (h : one cs n F = .inl z) : z = 5 ∨ z = 4 ∨ z = 1 := by
 unfold one at h
 split at h
 ·exact .inl (Sum.inl.inj h).symm
 ·split at h
  ·exact .inr (.inl (Sum.inl.inj h).symm)
  ·split at h
   ·exact .inr (.inr (Sum.inl.inj h).symm)
   ·cases h
theorem resS3 (f : Func) (tm : Array Value) (W : World) (g s y z : Nat) (p q r t u v : Value) (hf : f.results = #[.cell s 34, .tmp y, .tmp z]) (h : tm.getD s undef = .pointer (some ⟨g, 0, none⟩)) (h1 : tm.getD y undef = u) (h2 : tm.getD z undef = v) (c0 : W.cell? ⟨g, 0, none⟩ = some p) (c1 : W.cell? ⟨g, 1, none⟩ = some q) (c2 : W.cell? ⟨g, 2, none⟩ = some r) (c3 : W.cell? ⟨g, 3, none⟩ = some t) : (results f tm).run Try.prog W = .ok (.tuple #[.agg #[p, q, r, t], u, v]) W := by
 simp at h h1 h2
 simp [results, hf, go_sem, h, h1, h2, c0, c1, c2, c3]
def WK (gw : Nat) (cs : List Bs) (F : Nat → Int) (left : Bs) (w : World) (e : Ending) (w' : World) : Prop := match pd cs true F left with
 | .inl z => e = .returned (.tuple #[.agg #[.int .i64 0, .slice none 0 0, .slice none 0 0, .slice none 0 0], .slice none 0 0, .int .i64 z]) ∧ w.grownBy w' (some gw)
 | .inr (s, l2, r) => ∃ x lv, e = .returned (.tuple #[v4 x, lv, .int .i64 0]) ∧ Sh s x w' ∧ F4 x ∧ Pk.Sl l2 lv w' ∧ w'.cell? ⟨gw, 1, none⟩ = some (.int .i64 ((cs.length - r.length : Nat) : Int)) ∧ w.grownBy w' (some gw)
theorem WK_no {gw n : Nat} {cs : List Bs} {F F' : Nat → Int} {left lf : Bs} {w w' : World} {z : Int} (hp : pd (cs.drop n) (decide (n = 0)) F' lf = pd cs true F left) (h1 : one cs n F' = .inl z) (hg : w.grownBy w' (some gw)) : WK gw cs F left w (.returned (.tuple #[.agg #[.int .i64 0, .slice none 0 0, .slice none 0 0, .slice none 0 0], .slice none 0 0, .int .i64 z])) w' := by
 unfold WK
 rw [← hp, pd_no h1]; exact ⟨rfl, hg⟩
theorem WK_go {gw n : Nat} {cs : List Bs} {F F' : Nat → Int} {left lf : Bs} {w w' : World} {s : Shp} {x : V4} {lv : Value} (hp : pd (cs.drop n) (decide (n = 0)) F' lf = pd cs true F left) (h1 : one cs n F' = .inr s) (hx : nx s lf = none) (h2 : Sh s x w') (h3 : F4 x) (h4 : Pk.Sl lf lv w') (h5 : w'.cell? ⟨gw, 1, none⟩ = some (.int .i64 ((n : Int) + 1))) (hg : w.grownBy w' (some gw)) : WK gw cs F left w (.returned (.tuple #[v4 x, lv, .int .i64 0])) w' := by
 obtain ⟨hn, _, hq⟩ := pd_go h1; unfold WK
 rw [← hp, hq lf, hx]; refine ⟨x, lv, rfl, h2, h3, h4, ?_, hg⟩; rw [h5, List.length_drop]; congr 2
 omega
set_option maxHeartbeats 4000000 in
set_option maxRecDepth 100000 in
theorem walk_any (gw : Nat) (cs : List Bs) (cv : Value) (F : Nat → Int) (left : Bs) (lv : Value) (w : World) (hW : WV gw cs cv 0 w) (hN : NB gw w) (hcv : 0 < cs.length → cv.ownBlock ≠ some gw) (hl : cs.length ≤ 1048576) (hc : ∀ c ∈ cs, c.length ≤ 1048576) (hlf : Hf left) (hlv : Tr.Bs (fun k => k < w.heap.size ∧ k ≠ gw) left lv w) :
  Calls Try.prog 7 #[.pointer (some ⟨gw, 0, none⟩), Hv F, lv] w (WK gw cs F left w) := by
 have KSH : Hid (∀ (n : Nat) (F' : Nat → Int) (W : World), WV gw cs cv n W → NB gw W → n ≤ cs.length → Calls Try.prog 12 #[.pointer (some ⟨gw, 0, none⟩), Hv F'] W (SP gw cs n F' W)) := fun n F' W h1 h2 h3 => shape_any gw n cs cv F' W h1 h2 h3 hl hc
 have HW : Hid (WV gw cs cv 0 w) := hW; have HN : Hid (NB gw w) := hN; have HLV : Hid (Tr.Bs (fun k => k < w.heap.size ∧ k ≠ gw) left lv w) := hlv
 have HLF0 : Hid (Hf left) := hlf; have HCV : Hid (0 < cs.length → cv.ownBlock ≠ some gw) := hcv; clear hW hN hc hlf hlv hcv; obtain ⟨ap, cp, rfl, _, _⟩ := HLV.out; go_enter Try.func7, Try.ntmps7
 dsimp only [Hv]; obtain ⟨hF, eF⟩ : ∃ x, Hid (x = (h32 F).toArray) := ⟨_, rfl⟩; rw [← eF.out]; go_wp2_with fail
 have k0 := heap_alloc_new w (.cells hF 23 (0, 0)); have b0 : Below w.heap.size w (w.alloc (.cells hF 23)) := (Below.refl _ _).alloc (Nat.le_refl _) _; have z0 : (w.alloc (.cells hF 23)).heap.size = w.heap.size + 1 := by simp
 generalize w.alloc (.cells hF 23) = WA at k0 b0 z0 ⊢; have xA := BS_new WA; have bA : Below WA.heap.size WA (WA.alloc (.cells #[.int .i64 0, .slice none 0 0, .slice none 0 0, .slice none 0 0] 34)) := (Below.refl _ _).alloc (Nat.le_refl _) _; have kA : (WA.alloc (.cells #[.int .i64 0, .slice none 0 0, .slice none 0 0, .slice none 0 0] 34)).heap[w.heap.size]? = some (.cells (h32 F).toArray 23 (0, 0)) := (bA.block w.heap.size (by omega)).trans (by rw [← eF.out]; exact k0)
 have LB : Hid (Below w.heap.size w (WA.alloc (.cells #[.int .i64 0, .slice none 0 0, .slice none 0 0, .slice none 0 0] 34))) := b0.trans (bA.mono b0.size); generalize WA.alloc (.cells #[.int .i64 0, .slice none 0 0, .slice none 0 0, .slice none 0 0] 34) = W0 at xA kA LB ⊢; obtain ⟨h, eh⟩ : ∃ h, h = w.heap.size := ⟨_, rfl⟩; rw [z0, ← eh] at xA; rw [← eh] at kA; rw [← eh]; have EH : Hid (h = w.heap.size) := eh; have X0 : Hid (BS (h + 1) W0) := xA; have R0 : Hid (W0.heap[h]? = some (.cells (h32 F).toArray 23 (0, 0))) := kA; clear k0 b0 z0 xA bA kA eh eF; go_loopw [2] (fun v wr => ∃ (n : Nat) (F' : Nat → Int) (lf : Bs), n ≤ cs.length ∧ wr.heap[h]? = some (.cells (h32 F').toArray 23 (0, 0)) ∧ WV gw cs cv n wr ∧ NB gw wr ∧ BS (h + 1) wr ∧ Tr.Bs (fun k => k < h ∧ k ≠ gw) lf v wr ∧ Hf lf ∧ w.grownBy wr (some gw) ∧ pd (cs.drop n) (decide (n = 0)) F' lf = pd cs true F left) (fun _ wr => ((cs.length : Int) - nw gw wr).toNat)
 case atStart =>
  refine ⟨0, F, left, Nat.zero_le _, R0.out, ⟨Nat.lt_of_lt_of_le HW.out.hi LB.out.size, (LB.out.cell (p := ⟨gw, 0, none⟩) HW.out.hi).trans HW.out.c0, (LB.out.cell (p := ⟨gw, 1, none⟩) HW.out.hi).trans HW.out.c1, fun o => (LB.out.frozen (p := ⟨gw, o, none⟩) HW.out.hi).trans (HW.out.f o), Lz_below HW.out.l LB.out⟩, NB_below HN.out LB.out, X0.out, ?_, HLF0.out, gb_below LB.out, rfl⟩
  have := Tr.Bs_below HLV.out LB.out; rw [← EH.out] at this; exact this
 case round =>
  obtain ⟨wa, rfl⟩ : ∃ x, x = wr := ⟨_, rfl⟩; obtain ⟨n, F', lf, hn, hrow, hwv, hnb, hbs, hlf, hhf, hgb, hpd⟩ := hrel; obtain ⟨a2, c2, rfl, hc2, _⟩ := id hlf; have r1 := row_rng hrow; have KS := KSH.out n F' wa hwv hnb hn; have HROW : Hid (wa.heap[h]? = some (.cells (h32 F').toArray 23 (0, 0)) ∧ h < wa.heap.size) := ⟨hrow, Pk.lt_of_heap hrow⟩; have HWV : Hid (WV gw cs cv n wa) := hwv; have HNB : Hid (NB gw wa) := hnb; have HBS : Hid (BS (h + 1) wa) := hbs; obtain ⟨m, hm⟩ : ∃ m, Hid (m = lf.length) := ⟨_, rfl⟩; have HLF : Hid (Tr.Bs (fun k => k < h ∧ k ≠ gw) lf (.slice a2 m c2) wa) := by rw [hm.out]; exact hlf
  have HHF : Hid (Hf lf) := hhf; have HGB : Hid (w.grownBy wa (some gw)) := hgb; have HPD : Hid (pd (cs.drop n) (decide (n = 0)) F' lf = pd cs true F left) := hpd; have HGW : Hid (gw < h) := by have := HW.out.hi; have := EH.out; show _ < _; omega
  have HNL : Hid (n ≤ cs.length) := hn; rw [← hm.out]; clear hrow hwv hnb hbs hlf hhf hgb hpd hn hc2; go_wp2_with (refine wpList_load_mid rfl 23 (.tmp 4) rfl h 0 rfl (h32 F') _ r1 Try.underlying23 rfl info32 ?_)
  refine KS.mono ?_; intro e w2 he; clear KS r1; cases hone : one cs n F' with
  | inl z =>
   have he2 : EB z wa e w2 := by have := he; unfold SP at this; rw [hone] at this; exact this
   obtain ⟨rfl, b2⟩ := he2; have hz : (z != 0) = true := by rcases one_z hone with rfl | rfl | rfl <;> rfl
   have hz2 : ¬ z = 0 := by rcases one_z hone with rfl | rfl | rfl <;> decide
   have bB : Below w2.heap.size w2 (w2.alloc (.cells #[.int .i64 0, .slice none 0 0, .slice none 0 0, .slice none 0 0] 34)) := (Below.refl _ _).alloc (Nat.le_refl _) _; have b3 := b2.trans (bB.mono b2.size); have x3 := BS_gb (r := none) HBS.out (gb_below b3) nofun; have HG3 : Hid (w.grownBy (w2.alloc (.cells #[.int .i64 0, .slice none 0 0, .slice none 0 0, .slice none 0 0] 34)) (some gw)) := gb_trans HGB.out (gb_below b3); clear he b2 bB b3; go_wp2_with (refine wpList_stS rfl rfl rfl rfl x3 ?_)
   intro w6 g6 q0 q1 q2 q3; have HG6 : Hid (w.grownBy w6 (some gw)) := gb_up HG3.out g6 (by have := EH.out; omega)
   clear g6 x3; go_wp2_with fail
   exact bodyPost_ret (v := .tuple #[.agg #[.int .i64 0, .slice none 0 0, .slice none 0 0, .slice none 0 0], .slice none 0 0, .int .i64 z]) (resS3 _ _ _ (h + 1) 6 7 8 _ _ _ _ _ _ rfl rfl rfl rfl q0 q1 q2 q3) rfl (WK_no HPD.out hone HG6.out)
  | inr s =>
   have he2 : OKS gw n s wa e w2 := by have := he; unfold SP at this; rw [hone] at this; exact this
   obtain ⟨x, rfl, sh, ⟨kk, f1, f2, f3, f4, f5, f6, f7, f8, f9, rfl⟩, n1, gb, rf, y0, yf, nb⟩ := he2; obtain ⟨hnl, hiS, hpdn⟩ := pd_go hone; obtain rfl : kk = s.1 := by have := sh.1; injection this
   have hgh : h ≠ gw := by have := HGW.out; omega
   have GG2 : Hid (w.grownBy w2 (some gw)) := gb_trans HGB.out gb; have ROW2 : Hid (w2.heap[h]? = some (.cells (h32 F').toArray 23 (0, 0))) := row_gb HROW.out.1 HROW.out.2 gb hgh; have XX2 : Hid (BS (h + 1) w2) := BS_gb HBS.out gb (fun e => by injection e with e; have := HGW.out; omega)
   have LL2 : Hid (Tr.Bs (fun k => k < h ∧ k ≠ gw) lf (.slice a2 m c2) w2) := Tr.Bs_gb HLF.out gb (fun k hk e => hk.2 (by injection e))
   have WV2 : Hid (WV gw cs cv (n + 1) w2) := ⟨Nat.lt_of_lt_of_le HWV.out.hi gb.size, y0.trans HWV.out.c0, n1, fun o => (yf o).trans (HWV.out.f o), Lz_gb HW.out.l HN.out HCV.out (gb_trans HGB.out gb)⟩
   have NB2 : Hid (NB gw w2) := nb; have SS2 : Hid (Sh s (.int .i64 s.1, .slice f1 f2 f3, .slice f4 f5 f6, .slice f7 f8 f9) w2) := sh; have RFX : Hid (Rf wa.heap.size (.slice f7 f8 f9)) := rf; have HIS : Hid (isS s = true) := hiS; have HPN : Hid _ := hpdn; have HSZ : Hid (wa.heap.size ≤ w2.heap.size) := gb.size; clear he sh n1 gb rf y0 yf nb hnl hiS hpdn hgh; have bB : Below w2.heap.size w2 (w2.alloc (.cells #[.int .i64 s.1, .slice f1 f2 f3, .slice f4 f5 f6, .slice f7 f8 f9] 34)) := (Below.refl _ _).alloc (Nat.le_refl _) _; have HB := heap_alloc_new w2 (.cells #[.int .i64 s.1, .slice f1 f2 f3, .slice f4 f5 f6, .slice f7 f8 f9] 34); have s0 : (w2.alloc (.cells #[.int .i64 s.1, .slice f1 f2 f3, .slice f4 f5 f6, .slice f7 f8 f9] 34)).cell? ⟨w2.heap.size, 0, none⟩ = some (.int .i64 s.1) := by simp only [World.cell?, HB]; rfl
   have s1 : (w2.alloc (.cells #[.int .i64 s.1, .slice f1 f2 f3, .slice f4 f5 f6, .slice f7 f8 f9] 34)).cell? ⟨w2.heap.size, 1, none⟩ = some (.slice f1 f2 f3) := by simp only [World.cell?, HB]; rfl
   have s2 : (w2.alloc (.cells #[.int .i64 s.1, .slice f1 f2 f3, .slice f4 f5 f6, .slice f7 f8 f9] 34)).cell? ⟨w2.heap.size, 2, none⟩ = some (.slice f4 f5 f6) := by simp only [World.cell?, HB]; rfl
   have s3 : (w2.alloc (.cells #[.int .i64 s.1, .slice f1 f2 f3, .slice f4 f5 f6, .slice f7 f8 f9] 34)).cell? ⟨w2.heap.size, 3, none⟩ = some (.slice f7 f8 f9) := by simp only [World.cell?, HB]; rfl
   have G3 : Hid (w2.heap.size < (w2.alloc (.cells #[.int .i64 s.1, .slice f1 f2 f3, .slice f4 f5 f6, .slice f7 f8 f9] 34)).heap.size) := by show _ < _; simp
   have BB : Hid (Below w2.heap.size w2 (w2.alloc (.cells #[.int .i64 s.1, .slice f1 f2 f3, .slice f4 f5 f6, .slice f7 f8 f9] 34))) := bB; have KON := onward_any (fun k => k < h ∧ k ≠ gw) s lf f1 a2 f2 f3 m c2 (w2.alloc (.cells #[.int .i64 s.1, .slice f1 f2 f3, .slice f4 f5 f6, .slice f7 f8 f9] 34)) (Pk.Sl_below SS2.out.2.1 bB) (Tr.Bs_below LL2.out bB)
   have S0 : Hid _ := s0; have S1 : Hid _ := s1; have S2 : Hid _ := s2; have S3 : Hid _ := s3; clear bB HB; dsimp only [v4]; go_upto_region 4 with fail
   generalize w2.alloc (.cells #[.int .i64 s.1, .slice f1 f2 f3, .slice f4 f5 f6, .slice f7 f8 f9] 34) = W3 at s0 s1 s2 s3 G3 BB KON S0 S1 S2 S3 ⊢; generalize w2.heap.size = g9 at s0 s1 s2 s3 G3 KON S0 S1 S2 S3 HSZ ⊢; clear s2 s3; go_wp2_with fail
   refine KON.mono ?_; rintro e w4 ⟨j, rv, rfl, hk, b4⟩; have b24 : Below w2.heap.size w2 w4 := BB.out.trans (b4.mono BB.out.size); have GG : Hid (w.grownBy w4 (some gw)) := gb_trans GG2.out (gb_below b24); have ROW4 : Hid (w4.heap[h]? = some (.cells (h32 F').toArray 23 (0, 0))) := (b24.block h (Pk.lt_of_heap ROW2.out)).trans ROW2.out; have XX : Hid (BS (h + 1) w4) := BS_gb (r := none) XX2.out (gb_below b24) nofun; have LL : Hid (Tr.Bs (fun k => k < h ∧ k ≠ gw) lf (.slice a2 m c2) w4) := Tr.Bs_below LL2.out b24
   have NB4 : Hid (NB gw w4) := NB_below NB2.out b24; have SS : Hid (Sh s (.int .i64 s.1, .slice f1 f2 f3, .slice f4 f5 f6, .slice f7 f8 f9) w4) := Sh_below SS2.out b24; have C04 : Hid (w4.cell? ⟨gw, 0, none⟩ = some cv) := (b24.cell (p := ⟨gw, 0, none⟩) WV2.out.hi).trans WV2.out.c0; have NN : Hid (w4.cell? ⟨gw, 1, none⟩ = some (.int .i64 ((n : Int) + 1))) := (b24.cell (p := ⟨gw, 1, none⟩) WV2.out.hi).trans WV2.out.c1; have FR4 : Hid (∀ o, w4.frozen? ⟨gw, o, none⟩ = false) := fun o => (b24.frozen (p := ⟨gw, o, none⟩) WV2.out.hi).trans (WV2.out.f o)
   have t0 := (b4.cell (p := ⟨g9, 0, none⟩) G3.out).trans S0.out; have t1 := (b4.cell (p := ⟨g9, 1, none⟩) G3.out).trans S1.out; have t2 := (b4.cell (p := ⟨g9, 2, none⟩) G3.out).trans S2.out; have t3 := (b4.cell (p := ⟨g9, 3, none⟩) G3.out).trans S3.out; have T3 : Hid (w4.cell? ⟨g9, 3, none⟩ = some (.slice f7 f8 f9) ∧ g9 < w4.heap.size) := ⟨t3, Nat.lt_of_lt_of_le G3.out b4.size⟩; clear b4 b24 S0 S1 S2 S3 KON s0 s1 BB G3; cases hw : wk s lf with
   | none =>
    have HNX : Hid (nx s lf = none) := by show _ = _; unfold nx; rw [hw]
    have hb0 : (wk s lf).isSome = false := by rw [hw]; rfl
    rw [hw] at hb0; dsimp only [Option.isSome]; clear hk hb0; have x9 := XX.out; go_wp2_with (refine wpList_stS rfl rfl rfl rfl x9 ?_)
    intro w6 g6 q0 q1 q2 q3; have gw6 : w6.heap[gw]? = w4.heap[gw]? := g6.block gw (World.block_lt_of_cell? _ _ NN.out) (fun e => by injection e with e; have := HGW.out; omega)
    have nn6 : w6.cell? ⟨gw, 1, none⟩ = some (.int .i64 ((n : Int) + 1)) := (World.cell?_of_block (a := ⟨gw, 1, none⟩) gw6).trans NN.out; have HG6 : Hid (WK gw cs F left w (.returned (.tuple #[v4 (.int .i64 s.1, .slice f1 f2 f3, .slice f4 f5 f6, .slice f7 f8 f9), .slice a2 m c2, .int .i64 0])) w6) := WK_go HPD.out hone HNX.out (Sh_gb SS.out (BS_nb x9) (fun e => by have := RFX.out _ e; have := HBS.out.hi; omega) g6) ⟨_, _, _, _, _, _, _, _, _, _, rfl⟩ (Tr.Bs_sl (Tr.Bs_gb LL.out g6 (fun k hk e => by injection e with e; omega))) nn6 (gb_up GG.out g6 (by have := EH.out; omega))
    clear g6 gw6 nn6 x9; go_wp2_with fail
    exact bodyPost_ret (v := .tuple #[.agg #[.int .i64 s.1, .slice f1 f2 f3, .slice f4 f5 f6, .slice f7 f8 f9], .slice a2 m c2, .int .i64 0]) (resS3 _ _ _ (h + 1) 6 7 8 _ _ _ _ _ _ rfl rfl rfl rfl q0 q1 q2 q3) rfl HG6.out
   | some kr =>
    obtain ⟨jj, rest⟩ := kr; obtain ⟨hjj, hrv⟩ := hk _ hw; dsimp only at hjj hrv; subst hjj; obtain ⟨hjk, hlen, hhr⟩ := wk_kid HIS.out HHF.out hw; obtain ⟨ao, kc, e1, hkids⟩ := SS.out.2.2.2; injection e1 with e2 e3 e4
    subst e2 e3 e4; obtain ⟨gk, ofk, e5, hgk, hcell⟩ := hkids (by omega); subst e5; obtain ⟨vi, hvi, svi⟩ := hcell j hjk; obtain ⟨K, hK⟩ : ∃ K, s.2.2.2.getD j [] = K := ⟨_, rfl⟩; rw [hK] at svi hlen; obtain ⟨ak, ck, rfl, hck, hvk⟩ := svi; have VK : Hid (w4.cell? ⟨gk, ofk + j, none⟩ = some (.slice ak K.length ck) ∧ gk < w4.heap.size) := ⟨hvi, hgk⟩; have J0 : Hid ((0 : Int) ≤ (j : Int)) := by show _ ≤ _; omega
    have J1 : Hid ((j : Int) < (s.2.2.2.length : Int)) := by show _ < _; omega
    have j0 := J0.out; have j1 := J1.out; dsimp only [Option.isSome]; by_cases h0 : K.length = 0
    ·have HNX : Hid (nx s lf = none) := by show _ = _; unfold nx; rw [hw]; dsimp only; rw [hK, if_pos h0]
     rw [h0] at hvi; clear hk hrv hkids hcell hvk; have x9 := XX.out; go_wp2_with (refine wpList_stS rfl rfl rfl rfl x9 ?_)
     intro w6 g6 q0 q1 q2 q3; have gw6 : w6.heap[gw]? = w4.heap[gw]? := g6.block gw (World.block_lt_of_cell? _ _ NN.out) (fun e => by injection e with e; have := HGW.out; omega)
     have nn6 : w6.cell? ⟨gw, 1, none⟩ = some (.int .i64 ((n : Int) + 1)) := (World.cell?_of_block (a := ⟨gw, 1, none⟩) gw6).trans NN.out; have HG6 : Hid (WK gw cs F left w (.returned (.tuple #[v4 (.int .i64 s.1, .slice f1 f2 f3, .slice f4 f5 f6, .slice (some ⟨gk, ofk, none⟩) s.2.2.2.length f9), .slice a2 m c2, .int .i64 0])) w6) := WK_go HPD.out hone HNX.out (Sh_gb SS.out (BS_nb x9) (fun e => by have := RFX.out _ e; have := HBS.out.hi; omega) g6) ⟨_, _, _, _, _, _, _, _, _, _, rfl⟩ (Tr.Bs_sl (Tr.Bs_gb LL.out g6 (fun k hk e => by injection e with e; omega))) nn6 (gb_up GG.out g6 (by have := EH.out; omega))
     clear g6 gw6 nn6 x9; go_wp2_with fail
     exact bodyPost_ret (v := .tuple #[.agg #[.int .i64 s.1, .slice f1 f2 f3, .slice f4 f5 f6, .slice (some ⟨gk, ofk, none⟩) s.2.2.2.length f9], .slice a2 m c2, .int .i64 0]) (resS3 _ _ _ (h + 1) 6 7 8 _ _ _ _ _ _ rfl rfl rfl rfl q0 q1 q2 q3) rfl HG6.out
    ·have h32k : K.length = 32 := by rcases hlen with hlen | hlen; exact absurd hlen h0; exact hlen
     have HNX : Hid (nx s lf = some (K, rest)) := by show _ = _; unfold nx; rw [hw]; dsimp only; rw [hK, if_neg h0]
     have HRV : Hid (Tr.Bs (fun k => k < h ∧ k ≠ gw) rest rv w4) := hrv
     have HVK : Hid (Sp.Vw K ak w4) := hvk; have HHR : Hid (Hf rest) := hhr; have H32 : Hid (K.length = 32) := h32k; obtain ⟨a5, c5, rfl, _, _⟩ := id hrv; rw [h32k] at hvi VK; clear hk hrv hkids hcell hvk hhr h0 hlen h32k; go_upto_region 7 with fail
     have hL : RG.Lasts (fun wx => Below w4.heap.size w4 wx) (fun _ _ _ => True) := ⟨fun _ _ h hb => h.trans (hb.mono h.size), fun _ _ _ _ _ _ => trivial⟩
     refine RG.wp_region_gen (fun wx => Below w4.heap.size w4 wx) (fun _ _ _ => True) (fun _ _ => True) [0, 0, 0, 0, 0, 0, 2] (by kernel_rfl) (by kernel_rfl) ((Below.refl _ _).drew) ?_
     dsimp only [List.toList_toArray]
     iterate 2
      refine RG.go1 (v := ?_) (a' := ?_) hL (by decide) rfl ?_ ?_ ?_; rotate_left 2
      ·intro K wx hS hK; go_simp; exact hK _ (Below.refl _ _)
      ·simp only [Act.put, zA, zB, zC]; rfl
     refine RG.go1 (v := ?_) (a' := ?_) hL (by decide) rfl ?_ ?_ ?_; rotate_left 2
     ·intro K wx hS hK; have x0 := (hS.cell (p := ⟨g9, 3, none⟩) T3.out.2).trans T3.out.1; go_simp; exact hK _ (Below.refl _ _)
     ·simp only [Act.put, zA, zB, zC]; rfl
     refine RG.go1 (v := ?_) (a' := ?_) hL (by decide) rfl ?_ ?_ ?_; rotate_left 2
     ·intro K wx hS hK; go_simp; exact hK _ (Below.refl _ _)
     ·simp only [Act.put, zA, zB, zC]; rfl
     refine RG.go1 (v := ?_) (a' := ?_) hL (by decide) rfl ?_ ?_ ?_; rotate_left 2
     ·intro K wx hS hK; have d0 := J0.out; have d1 := J1.out; go_simp; exact hK _ (Below.refl _ _)
     ·simp only [Act.put, zA, zB, zC]; rfl
     refine RG.go1 (v := ?_) (a' := ?_) hL (by decide) rfl ?_ ?_ ?_; rotate_left 2
     ·intro K wx hS hK; have x1 := (hS.cell (p := ⟨gk, ofk + j, none⟩) VK.out.2).trans VK.out.1; go_simp; exact hK _ (Below.refl _ _)
     ·simp only [Act.put, zA, zB, zC]; rfl
     refine RG.goT ?_; refine RG.go_end ?_; intro U w9 m9 y9 x9; simp +decide (maxSteps := 1000000) only [RG.tl, RG.putN, ↓reduceIte]
     clear hL x9 y9; obtain ⟨gb2, ob, hak, hgb2, hbytes⟩ := HVK.out (by rw [H32.out]; decide)
     subst hak; have ROW9 : w9.heap[h]? = some (.cells (h32 F').toArray 23 (0, 0)) := (m9.block h (Pk.lt_of_heap ROW4.out)).trans ROW4.out; refine wpList_copy_own rfl (.tmp 47) (.tmp 52) 24 24 rfl 5 Try.underlying24 (by kernel_rfl) h 0 32 32 ⟨gb2, ob, none⟩ 32 ck rfl rfl (h32 F').toArray 23 ROW9 (Pk.bcs K) (by rw [Pk.bcs_len, H32.out]; rfl) (fun q v hv => ?_) (by rw [Pk.bcs_len, H32.out]; simp [h32_length]) (fun v hv => by
      obtain ⟨c, _, rfl⟩ := List.mem_map.1 hv; rfl) ?_
     ·have hq : q < K.length := by
       have := (List.getElem?_eq_some_iff.1 hv).1; rwa [Pk.bcs_len] at this
      rw [Sp.add_lit, ← hv, (m9.cell (p := ⟨gb2, ob + q, none⟩) hgb2).trans (hbytes q hq)]; simp [Pk.bcs, bz, hq]
     rw [cp_row K F' H32.out]; have row10 := setRow_heap w9 h _ (h32 (bz K)).toArray _ _ ROW9; have g10 := gb_setRow w9 h (h32 (bz K)).toArray; generalize w9.setRow h (h32 (bz K)).toArray = w10 at row10 g10 ⊢; have hgw9 : gw < w9.heap.size := Nat.lt_of_lt_of_le NB4.out.1 m9.size; have hgh : gw ≠ h := by have := HGW.out; omega
     have hbg : w10.heap[gw]? = w4.heap[gw]? := (g10.block gw hgw9 (fun e => hgh (by injection e))).trans (m9.block gw NB4.out.1)
     have GG10 : Hid (w.grownBy w10 (some gw)) := gb_up (gb_trans GG.out (gb_below m9)) g10 (by have := EH.out; omega)
     have WV10 : Hid (WV gw cs cv (n + 1) w10) := ⟨Nat.lt_of_lt_of_le hgw9 g10.size, (World.cell?_of_block (a := ⟨gw, 0, none⟩) hbg).trans C04.out, (World.cell?_of_block (a := ⟨gw, 1, none⟩) hbg).trans NN.out, fun o => (World.frozen?_of_block (a := ⟨gw, o, none⟩) hbg).trans (FR4.out o), Lz_gb HW.out.l HN.out HCV.out GG10.out⟩
     have NB10 : Hid (NB gw w10) := ⟨Nat.lt_of_lt_of_le hgw9 g10.size, fun o x => by rw [World.cell?_of_block (a := ⟨gw, o, none⟩) hbg]; exact NB4.out.2 o x⟩
     have XX10 : Hid (BS (h + 1) w10) := BS_gb (BS_gb (r := none) XX.out (gb_below m9) nofun) g10 (fun e => by injection e with e; omega)
     have LL10 : Hid (Tr.Bs (fun k => k < h ∧ k ≠ gw) rest (.slice a5 rest.length c5) w10) := Tr.Bs_gb (Tr.Bs_below HRV.out m9) g10 (fun k hk e => by injection e with e; omega)
     have PD10 : Hid (pd (cs.drop (n + 1)) (decide (n + 1 = 0)) (bz K) rest = pd cs true F left) := by
      show _ = _
      rw [← HPD.out, HPN.out lf, HNX.out]
     have ROW10 : Hid _ := row10; have MS : Hid (((cs.length : Int) - nw gw w10).toNat < ((cs.length : Int) - nw gw wa).toNat) := by
      show _ < _
      rw [nw_of HWV.out.c1, nw_of WV10.out.c1]; have := (pd_go hone).1; omega
     have HNL2 : Hid (n + 1 ≤ cs.length) := by have := (pd_go hone).1; show _ ≤ _; omega
     clear hbytes ROW9 row10 g10 hgw9 hgh hbg m9 t0 t1 t2 t3 hvi; go_wp2_with fail
     go_roundw
     case rel => exact ⟨n + 1, bz K, rest, HNL2.out, ROW10.out, WV10.out, NB10.out, XX10.out, LL10.out, HHR.out, GG10.out, PD10.out⟩
     case measure => exact MS.out
end Pf
end Go.Proofs.Ytlbdaccmnpcccaa
namespace Go.Proofs.Ytlbdaccmnpcccaa
namespace Pf
open Rs Go.RowKit Sp RI RH
structure IC (w0 : World) (S P : Bs) (z : Int) (d : Nat → Bool) (U : Nat → Value) (wx : World) : Prop where
 bel : Below w0.heap.size w0 wx
 u2 : d 2 = true → Pk.Sl S (U 2) wx
 u3 : d 3 = true → U 3 = .string ⟨S.toArray⟩
 u5 : d 5 = true → ∃ rv, U 5 = .tuple #[rv, .int .i64 z] ∧ Pk.Sl P rv wx
 u6 : d 6 = true → Pk.Sl P (U 6) wx
 u7 : d 7 = true → U 7 = .int .i64 z
theorem iU_s (U : Nat → Value) (i : Nat) (z : Value) : updU U i z i = z := by simp [updU]
theorem iU_o (U : Nat → Value) {i j : Nat} (z : Value) (h : j ≠ i) : updU U i z j = U j := by unfold updU; rw [if_neg h]
variable {w0 : World} {S P : Bs} {z : Int} {d : Nat → Bool} {U : Nat → Value} {wx : World}
theorem IC.start (hb : Below w0.heap.size w0 wx) : IC w0 S P z (fun _ => false) (fun _ => undef) wx := ⟨hb, nofun, nofun, nofun, nofun, nofun⟩
theorem IC.keep {i : Nat} (hi : i ≠ 2 ∧ i ≠ 3 ∧ i ≠ 5 ∧ i ≠ 6 ∧ i ≠ 7) (h : IC w0 S P z d U wx) : IC w0 S P z (don d i) U wx := by
 have e2 : don d i 2 = d 2 := don_other _ _ _ (fun e => hi.1 e.symm)
 have e3 : don d i 3 = d 3 := don_other _ _ _ (fun e => hi.2.1 e.symm)
 have e5 : don d i 5 = d 5 := don_other _ _ _ (fun e => hi.2.2.1 e.symm)
 have e6 : don d i 6 = d 6 := don_other _ _ _ (fun e => hi.2.2.2.1 e.symm)
 have e7 : don d i 7 = d 7 := don_other _ _ _ (fun e => hi.2.2.2.2 e.symm)
 exact ⟨h.bel, by rw [e2]; exact h.u2, by rw [e3]; exact h.u3, by rw [e5]; exact h.u5, by rw [e6]; exact h.u6, by rw [e7]; exact h.u7⟩
theorem IC.on {w2 : World} (h : IC w0 S P z d U wx) (hb : Below wx.heap.size wx w2) : IC w0 S P z d U w2 :=
 ⟨h.bel.trans (hb.mono h.bel.size), fun k => Pk.Sl_below (h.u2 k) hb, h.u3, fun k => by obtain ⟨rv, e, s⟩ := h.u5 k; exact ⟨rv, e, Pk.Sl_below s hb⟩, fun k => Pk.Sl_below (h.u6 k) hb, h.u7⟩
theorem IC.s2 {v : Value} {w2 : World} (h : IC w0 S P z d U wx) (hs : Pk.Sl S v w2) (hb : Below wx.heap.size wx w2) : IC w0 S P z (don d 2) (updU U 2 (v)) w2 := by
 have g := h.on hb; have e3 : don d 2 3 = d 3 := don_other _ _ _ (by decide); have e5 : don d 2 5 = d 5 := don_other _ _ _ (by decide); have e6 : don d 2 6 = d 6 := don_other _ _ _ (by decide); have e7 : don d 2 7 = d 7 := don_other _ _ _ (by decide); exact ⟨g.bel, fun _ => by rw [iU_s]; exact hs, (by rw [e3, iU_o _ _ (by decide)]; exact g.u3), (by rw [e5, iU_o _ _ (by decide)]; exact g.u5), (by rw [e6, iU_o _ _ (by decide)]; exact g.u6), (by rw [e7, iU_o _ _ (by decide)]; exact g.u7)⟩
theorem IC.s3 (h : IC w0 S P z d U wx) : IC w0 S P z (don d 3) (updU U 3 (.string ⟨S.toArray⟩)) wx := by
 have g := h; have e2 : don d 3 2 = d 2 := don_other _ _ _ (by decide); have e5 : don d 3 5 = d 5 := don_other _ _ _ (by decide); have e6 : don d 3 6 = d 6 := don_other _ _ _ (by decide); have e7 : don d 3 7 = d 7 := don_other _ _ _ (by decide); exact ⟨g.bel, (by rw [e2, iU_o _ _ (by decide)]; exact g.u2), fun _ => iU_s _ _ _, (by rw [e5, iU_o _ _ (by decide)]; exact g.u5), (by rw [e6, iU_o _ _ (by decide)]; exact g.u6), (by rw [e7, iU_o _ _ (by decide)]; exact g.u7)⟩
theorem IC.s5 {v : Value} {w2 : World} (h : IC w0 S P z d U wx) (hs : Pk.Sl P v w2) (hb : Below wx.heap.size wx w2) : IC w0 S P z (don d 5) (updU U 5 (.tuple #[v, .int .i64 z])) w2 := by
 have g := h.on hb; have e2 : don d 5 2 = d 2 := don_other _ _ _ (by decide); have e3 : don d 5 3 = d 3 := don_other _ _ _ (by decide); have e6 : don d 5 6 = d 6 := don_other _ _ _ (by decide); have e7 : don d 5 7 = d 7 := don_other _ _ _ (by decide); exact ⟨g.bel, (by rw [e2, iU_o _ _ (by decide)]; exact g.u2), (by rw [e3, iU_o _ _ (by decide)]; exact g.u3), fun _ => ⟨v, iU_s _ _ _, hs⟩, (by rw [e6, iU_o _ _ (by decide)]; exact g.u6), (by rw [e7, iU_o _ _ (by decide)]; exact g.u7)⟩
theorem IC.s6 {v : Value} (h : IC w0 S P z d U wx) (hs : Pk.Sl P v wx) : IC w0 S P z (don d 6) (updU U 6 (v)) wx := by
 have g := h; have e2 : don d 6 2 = d 2 := don_other _ _ _ (by decide); have e3 : don d 6 3 = d 3 := don_other _ _ _ (by decide); have e5 : don d 6 5 = d 5 := don_other _ _ _ (by decide); have e7 : don d 6 7 = d 7 := don_other _ _ _ (by decide); exact ⟨g.bel, (by rw [e2, iU_o _ _ (by decide)]; exact g.u2), (by rw [e3, iU_o _ _ (by decide)]; exact g.u3), (by rw [e5, iU_o _ _ (by decide)]; exact g.u5), fun _ => by rw [iU_s]; exact hs, (by rw [e7, iU_o _ _ (by decide)]; exact g.u7)⟩
theorem IC.s7 (h : IC w0 S P z d U wx) : IC w0 S P z (don d 7) (updU U 7 (.int .i64 z)) wx := by
 have g := h; have e2 : don d 7 2 = d 2 := don_other _ _ _ (by decide); have e3 : don d 7 3 = d 3 := don_other _ _ _ (by decide); have e5 : don d 7 5 = d 5 := don_other _ _ _ (by decide); have e6 : don d 7 6 = d 6 := don_other _ _ _ (by decide); exact ⟨g.bel, (by rw [e2, iU_o _ _ (by decide)]; exact g.u2), (by rw [e3, iU_o _ _ (by decide)]; exact g.u3), (by rw [e5, iU_o _ _ (by decide)]; exact g.u5), (by rw [e6, iU_o _ _ (by decide)]; exact g.u6), fun _ => iU_s _ _ _⟩
theorem hv_Hf (b : Bs) : Hf (Nb.hv b) := fun x hx => Nb.pt_hv b x hx
set_option maxHeartbeats 2000000 in
set_option maxRecDepth 100000 in
theorem icheck_any (F : Nat → Int) (key : Bs) (ak : Option Addr) (ck : Nat) (hk : key.length ≤ 32) (cs : List Bs) (cv : Value) (hc : ∀ c ∈ cs, c.length ≤ 1048576) (w : World) (hkv : Sp.Vw key ak w) (hcv : Lz cs cv w) :
  Calls Try.prog 5 #[Hv F, .slice ak key.length ck, cv] w (SDP cs true F (Nb.hv key) w) := by
 obtain ⟨P, hP⟩ : ∃ P, Hid (P = (sd cs true F (Nb.hv key)).1) := ⟨_, rfl⟩; obtain ⟨z, hz⟩ : ∃ z, Hid (z = (sd cs true F (Nb.hv key)).2) := ⟨_, rfl⟩; have HF : Hid (∀ (v : Value) (w' : World), Pk.Sl P v w' → Below w.heap.size w w' → SDP cs true F (Nb.hv key) w (.returned (.tuple #[v, .int .i64 z])) w') := fun v w' h1 h2 => by
  rw [hP.out] at h1; rw [hz.out]; exact ⟨v, rfl, h1, h2⟩
 have KH0 : Hid (∀ W : World, Below w.heap.size w W → Calls Try.prog 11 #[.slice ak key.length ck] W fun e w' => ∃ v, e = .returned v ∧ Pk.Sl (Nb.hv key) v w' ∧ Below W.heap.size W w') := fun W hW => (Nb.nhalves_any key ak ck W (by show _ ≤ _; omega) (Sp.Vw_below hkv hW)).mono fun e w' he => by
  obtain ⟨v, rfl, ho, hb⟩ := he; exact ⟨v, rfl, Pk.own_sl ho, hb⟩
 have KS0 : Hid (∀ W : World, Below w.heap.size w W → Calls Try.prog 10 #[Hv F, .string (Tr.st (Nb.hv key)), cv, .bool true] W fun e w' => ∃ v, e = .returned (.tuple #[v, .int .i64 z]) ∧ Pk.Sl P v w' ∧ Below W.heap.size W w') := fun W hW => (showdown_any cs true F (Nb.hv key) cv W (Lz_below hcv hW) (hv_Hf key) hc).mono fun e w' he => by
  obtain ⟨v, rfl, ho, hb⟩ := he; exact ⟨v, by rw [hz.out], by rw [hP.out]; exact ho, hb⟩
 have HKL : Hid (key.length ≤ 32) := hk; clear hP hz hc hkv hcv hk; generalize hm : key.length = m at *; have d0 : decide ((32 : Int) < (m : Int)) = false := decide_eq_false (by have := HKL.out; omega)
 have d1 : ¬ (32 : Int) < (m : Int) := by have := HKL.out; omega
 clear hm; go_enter Try.func5, Try.ntmps5
 dsimp only [Hv]; obtain ⟨hF, eF⟩ : ∃ x, Hid (x = (h32 F).toArray) := ⟨_, rfl⟩; rw [← eF.out]; go_upto_region 3 with fail
 have k0 : Sp.CK .u8 w.heap.size 32 F (w.alloc (.cells hF 23)) := by rw [eF.out]; exact box_ck F w _
 have b0 : Below w.heap.size w (w.alloc (.cells hF 23)) := (Below.refl _ _).alloc (Nat.le_refl _) _; have z0 : w.heap.size < (w.alloc (.cells hF 23)).heap.size := by simp
 generalize w.alloc (.cells hF 23) = w1 at k0 b0 z0 ⊢; have HCK : Hid (Sp.CK .u8 w.heap.size 32 F w1 ∧ w.heap.size < w1.heap.size) := ⟨k0, z0⟩; have B0 : Hid (Below w.heap.size w w1) := b0; have KH : Hid (∀ W : World, Below w1.heap.size w1 W → Calls Try.prog 11 #[.slice ak m ck] W fun e w' => ∃ v, e = .returned v ∧ Pk.Sl (Nb.hv key) v w' ∧ Below W.heap.size W w') := fun W hW => KH0.out W (B0.out.trans (hW.mono B0.out.size))
 have KS : Hid (∀ W : World, Below w1.heap.size w1 W → Calls Try.prog 10 #[Hv F, .string (Tr.st (Nb.hv key)), cv, .bool true] W fun e w' => ∃ v, e = .returned (.tuple #[v, .int .i64 z]) ∧ Pk.Sl P v w' ∧ Below W.heap.size W w') := fun W hW => KS0.out W (B0.out.trans (hW.mono B0.out.size))
 clear k0 b0 z0 KH0 KS0 eF; refine RH.wp_region_genI (IC w1 (Nb.hv key) P z) [0, 0, 1, 1, 0, 1, 1, 1, 2, 2] (by kernel_rfl) (by kernel_rfl) (IC.start (Below.refl _ _).drew) ?_; dsimp only [List.toList_toArray]; refine RH.goD (v := ?_) (f' := ?_) rfl ?_ ?_ ?_; rotate_left 2
 ·intro U K d wx hI hmay hK; refine Hh.ld rfl rfl (Sp.CK_below HCK.out.1 hI.bel HCK.out.2) ?_; exact hK _ (IC.keep (by decide) hI)
 ·intro U; simp only [Act.put, zA, zB, zC]; rfl
 refine RH.goD (v := ?_) (f' := ?_) rfl ?_ ?_ ?_; rotate_left 2
 ·intro U K d wx hI hmay hK; go_simp; exact hK _ (IC.keep (by decide) hI)
 ·intro U; simp only [Act.put, zA, zB, zC]; rfl
 refine RH.goN (f' := ?_) rfl ?_ ?_ ?_; rotate_left 1
 ·intro U K d wx hI hmay hK; go_simp; refine (KH.out wx hI.bel).mono (fun e w2 he => ?_)
  obtain ⟨v, rfl, hs, hb⟩ := he; refine ⟨_, rfl, ?_⟩; exact hK _ _ (hI.s2 hs hb)
 ·intro U; simp only [Act.put, zA, zB, zC]; rfl
 refine RH.goN (f' := ?_) rfl ?_ ?_ ?_; rotate_left 1
 ·intro U K d wx hI hmay hK; have hd := hmay.2 _ rfl; simp [Region.binds] at hd
  have hc := Pk.Sl_conv (hI.u2 (by simp [hd])); go_simp; try rw [hc]
  try go_simp
  exact hK _ _ hI.s3
 ·intro U; simp only [Act.put, zA, zB, zC]; rfl
 refine RH.goD (v := ?_) (f' := ?_) rfl ?_ ?_ ?_; rotate_left 2
 ·intro U K d wx hI hmay hK; go_simp; exact hK _ (IC.keep (by decide) hI)
 ·intro U; simp only [Act.put, zA, zB, zC]; rfl
 refine RH.goN (f' := ?_) rfl ?_ ?_ ?_; rotate_left 1
 ·intro U K d wx hI hmay hK; have hd := hmay.2 _ rfl; simp [Region.binds] at hd
  have h3 := hI.u3 (by simp [hd]); go_simp; try rw [h3]
  refine (KS.out wx hI.bel).mono (fun e w2 he => ?_)
  obtain ⟨rv, rfl, hs, hb⟩ := he; refine ⟨_, rfl, ?_⟩; exact hK _ _ (hI.s5 hs hb)
 ·intro U; simp only [Act.put, zA, zB, zC]; rfl
 refine RH.goN (f' := ?_) rfl ?_ ?_ ?_; rotate_left 1
 ·intro U K d wx hI hmay hK; have hd := hmay.2 _ rfl; simp [Region.binds] at hd
  obtain ⟨rv, hu, hs⟩ := hI.u5 (by simp [hd]); go_simp; try rw [hu]
  try go_simp
  exact hK _ _ (hI.s6 hs)
 ·intro U; simp only [Act.put, zA, zB, zC]; rfl
 refine RH.goN (f' := ?_) rfl ?_ ?_ ?_; rotate_left 1
 ·intro U K d wx hI hmay hK; have hd := hmay.2 _ rfl; simp [Region.binds] at hd
  obtain ⟨rv, hu, _⟩ := hI.u5 (by simp [hd]); go_simp; try rw [hu]
  try go_simp
  exact hK _ _ hI.s7
 ·intro U; simp only [Act.put, zA, zB, zC]; rfl
 iterate 2
  refine RH.goT ?_
 refine RH.go_end ?_; intro d9 U w9 h9 hall; simp +decide only [RH.tl, if_true, if_false]
 have hs := HF.out _ _ (h9.u6 (hall 6 (by decide))) (B0.out.trans (h9.bel.mono B0.out.size)); have HS : Hid _ := hs; have e7 := h9.u7 (hall 7 (by decide)); rw [e7]; clear hs h9 hall e7; go_wp2_with fail
 go_ret2
 exact HS.out
end Pf
end Go.Proofs.Ytlbdaccmnpcccaa
namespace Go.Proofs.Ytlbdaccmnpcccaa
namespace Pf
open Rs Go.RowKit
def VA (s : Shp) (left : Bs) (w : World) (e : Ending) (w' : World) : Prop := ∃ rv, e = .returned rv ∧ Pk.Sl (va s left) rv w' ∧ Below w.heap.size w w'
set_option maxHeartbeats 1000000 in
set_option maxRecDepth 100000 in
theorem va_yes (p v left : Bs) (z : List Bs) (a1 a2 a3 a4 : Option Addr) (n1 c1 n2 c2 n3 c3 n4 c4 : Nat) (w : World) (hp : Hid (Pk.Sl p (.slice a1 n1 c1) w)) (hv : Hid (Pk.Sl v (.slice a2 n2 c2) w)) (hl : Hid (Pk.Sl left (.slice a4 n4 c4) w)) (hq : p = left) :
  Calls Try.prog 9 #[.agg #[.int .i64 1, .slice a1 n1 c1, .slice a2 n2 c2, .slice a3 n3 c3], .slice a4 n4 c4] w (VA ((1 : Int), p, v, z) left w) := by
 have b0 : Below w.heap.size w (w.alloc (.cells #[.int .i64 1, .slice a1 n1 c1, .slice a2 n2 c2, .slice a3 n3 c3] 34)) := (Below.refl _ _).alloc (Nat.le_refl _) _; have HA := heap_alloc_new w (.cells #[.int .i64 1, .slice a1 n1 c1, .slice a2 n2 c2, .slice a3 n3 c3] 34); have s0 : (w.alloc (.cells #[.int .i64 1, .slice a1 n1 c1, .slice a2 n2 c2, .slice a3 n3 c3] 34)).cell? ⟨w.heap.size, 0, none⟩ = some (.int .i64 1) := by simp only [World.cell?, HA]; rfl
 have s1 : (w.alloc (.cells #[.int .i64 1, .slice a1 n1 c1, .slice a2 n2 c2, .slice a3 n3 c3] 34)).cell? ⟨w.heap.size, 1, none⟩ = some (.slice a1 n1 c1) := by simp only [World.cell?, HA]; rfl
 have s2 : (w.alloc (.cells #[.int .i64 1, .slice a1 n1 c1, .slice a2 n2 c2, .slice a3 n3 c3] 34)).cell? ⟨w.heap.size, 2, none⟩ = some (.slice a2 n2 c2) := by simp only [World.cell?, HA]; rfl
 have P0 : Hid _ := Pk.Sl_below hp.out b0; have V0 : Hid _ := Pk.Sl_below hv.out b0; have L0 : Hid _ := Pk.Sl_below hl.out b0; have HQ : Hid ((p == left) = true) := by show _ = _; rw [hq]; exact beq_self_eq_true _
 have ev : Hid (va ((1 : Int), p, v, z) left = v) := by
  show _ = _
  unfold va here
  rw [if_pos (by simp [hq])]
 clear hq; clear HA; go_enter Try.func9, Try.ntmps9
 go_upto_region 1 with fail
 have B0 : Hid _ := b0; clear b0; generalize w.alloc (.cells #[.int .i64 1, .slice a1 n1 c1, .slice a2 n2 c2, .slice a3 n3 c3] 34) = W0 at *; go_wp2_with fail
 refine (Tr.equal_bs (sl_bs P0.out) (sl_bs L0.out)).mono ?_; rintro e w1 ⟨rfl, rfl⟩; rw [HQ.out]; go_wp2_with fail
 go_ret
 exact ⟨_, rfl, by rw [ev.out]; exact V0.out, B0.out⟩
set_option maxHeartbeats 1000000 in
set_option maxRecDepth 100000 in
theorem va_no (p v left : Bs) (z : List Bs) (a1 a2 a3 a4 : Option Addr) (n1 c1 n2 c2 n3 c3 n4 c4 : Nat) (w : World) (hp : Hid (Pk.Sl p (.slice a1 n1 c1) w)) (hv : Hid (Pk.Sl v (.slice a2 n2 c2) w)) (hl : Hid (Pk.Sl left (.slice a4 n4 c4) w)) (hq : p ≠ left) :
  Calls Try.prog 9 #[.agg #[.int .i64 1, .slice a1 n1 c1, .slice a2 n2 c2, .slice a3 n3 c3], .slice a4 n4 c4] w (VA ((1 : Int), p, v, z) left w) := by
 have b0 : Below w.heap.size w (w.alloc (.cells #[.int .i64 1, .slice a1 n1 c1, .slice a2 n2 c2, .slice a3 n3 c3] 34)) := (Below.refl _ _).alloc (Nat.le_refl _) _; have HA := heap_alloc_new w (.cells #[.int .i64 1, .slice a1 n1 c1, .slice a2 n2 c2, .slice a3 n3 c3] 34); have s0 : (w.alloc (.cells #[.int .i64 1, .slice a1 n1 c1, .slice a2 n2 c2, .slice a3 n3 c3] 34)).cell? ⟨w.heap.size, 0, none⟩ = some (.int .i64 1) := by simp only [World.cell?, HA]; rfl
 have s1 : (w.alloc (.cells #[.int .i64 1, .slice a1 n1 c1, .slice a2 n2 c2, .slice a3 n3 c3] 34)).cell? ⟨w.heap.size, 1, none⟩ = some (.slice a1 n1 c1) := by simp only [World.cell?, HA]; rfl
 have s2 : (w.alloc (.cells #[.int .i64 1, .slice a1 n1 c1, .slice a2 n2 c2, .slice a3 n3 c3] 34)).cell? ⟨w.heap.size, 2, none⟩ = some (.slice a2 n2 c2) := by simp only [World.cell?, HA]; rfl
 have P0 : Hid _ := Pk.Sl_below hp.out b0; have V0 : Hid _ := Pk.Sl_below hv.out b0; have L0 : Hid _ := Pk.Sl_below hl.out b0; have HQ : Hid ((p == left) = false) := beq_eq_false_iff_ne.2 hq; have ev : Hid (va ((1 : Int), p, v, z) left = []) := by
  show _ = _
  unfold va here
  rw [if_neg (by simp [hq])]
 clear hq; clear HA; go_enter Try.func9, Try.ntmps9
 go_upto_region 1 with fail
 have B0 : Hid _ := b0; clear b0; generalize w.alloc (.cells #[.int .i64 1, .slice a1 n1 c1, .slice a2 n2 c2, .slice a3 n3 c3] 34) = W0 at *; go_wp2_with fail
 refine (Tr.equal_bs (sl_bs P0.out) (sl_bs L0.out)).mono ?_; rintro e w1 ⟨rfl, rfl⟩; rw [HQ.out]; go_wp2_with fail
 go_ret
 exact ⟨_, rfl, by rw [ev.out]; exact Pk.Sl_nil _, B0.out⟩
set_option maxHeartbeats 1000000 in
set_option maxRecDepth 100000 in
theorem va_fork (p v left : Bs) (z : List Bs) (a1 a2 a3 a4 : Option Addr) (n1 c1 n2 c2 n3 c3 n4 c4 : Nat) (w : World) (hp : Hid (Pk.Sl p (.slice a1 n1 c1) w)) (hv : Hid (Pk.Sl v (.slice a2 n2 c2) w)) (hl : Hid (Pk.Sl left (.slice a4 n4 c4) w)) (hq : left = []) :
  Calls Try.prog 9 #[.agg #[.int .i64 3, .slice a1 n1 c1, .slice a2 n2 c2, .slice a3 n3 c3], .slice a4 n4 c4] w (VA ((3 : Int), p, v, z) left w) := by
 have b0 : Below w.heap.size w (w.alloc (.cells #[.int .i64 3, .slice a1 n1 c1, .slice a2 n2 c2, .slice a3 n3 c3] 34)) := (Below.refl _ _).alloc (Nat.le_refl _) _; have HA := heap_alloc_new w (.cells #[.int .i64 3, .slice a1 n1 c1, .slice a2 n2 c2, .slice a3 n3 c3] 34); have s0 : (w.alloc (.cells #[.int .i64 3, .slice a1 n1 c1, .slice a2 n2 c2, .slice a3 n3 c3] 34)).cell? ⟨w.heap.size, 0, none⟩ = some (.int .i64 3) := by simp only [World.cell?, HA]; rfl
 have s1 : (w.alloc (.cells #[.int .i64 3, .slice a1 n1 c1, .slice a2 n2 c2, .slice a3 n3 c3] 34)).cell? ⟨w.heap.size, 1, none⟩ = some (.slice a1 n1 c1) := by simp only [World.cell?, HA]; rfl
 have s2 : (w.alloc (.cells #[.int .i64 3, .slice a1 n1 c1, .slice a2 n2 c2, .slice a3 n3 c3] 34)).cell? ⟨w.heap.size, 2, none⟩ = some (.slice a2 n2 c2) := by simp only [World.cell?, HA]; rfl
 have P0 : Hid _ := Pk.Sl_below hp.out b0; have V0 : Hid _ := Pk.Sl_below hv.out b0; have L0 : Hid _ := Pk.Sl_below hl.out b0; have t4 : ((n4 : Int) == 0) = true := by
  obtain ⟨_, _, e1, _, _⟩ := hl.out; injection e1 with _ e3 _
  rw [e3, hq]; rfl
 have t5 : n4 = 0 := by
  obtain ⟨_, _, e1, _, _⟩ := hl.out; injection e1 with _ e3 _
  rw [e3, hq]; rfl
 have ev : Hid (va ((3 : Int), p, v, z) left = v) := by
  show _ = _
  unfold va here
  rw [if_pos (by simp [hq])]
 clear hq; clear HA; go_enter Try.func9, Try.ntmps9
 go_upto_region 1 with fail
 have B0 : Hid _ := b0; clear b0; generalize w.alloc (.cells #[.int .i64 3, .slice a1 n1 c1, .slice a2 n2 c2, .slice a3 n3 c3] 34) = W0 at *; go_wp2_with fail
 go_ret
 exact ⟨_, rfl, by rw [ev.out]; exact V0.out, B0.out⟩
set_option maxHeartbeats 1000000 in
set_option maxRecDepth 100000 in
theorem va_forkn (p v left : Bs) (z : List Bs) (a1 a2 a3 a4 : Option Addr) (n1 c1 n2 c2 n3 c3 n4 c4 : Nat) (w : World) (hp : Hid (Pk.Sl p (.slice a1 n1 c1) w)) (hv : Hid (Pk.Sl v (.slice a2 n2 c2) w)) (hl : Hid (Pk.Sl left (.slice a4 n4 c4) w)) (hq : left ≠ []) :
  Calls Try.prog 9 #[.agg #[.int .i64 3, .slice a1 n1 c1, .slice a2 n2 c2, .slice a3 n3 c3], .slice a4 n4 c4] w (VA ((3 : Int), p, v, z) left w) := by
 have b0 : Below w.heap.size w (w.alloc (.cells #[.int .i64 3, .slice a1 n1 c1, .slice a2 n2 c2, .slice a3 n3 c3] 34)) := (Below.refl _ _).alloc (Nat.le_refl _) _; have HA := heap_alloc_new w (.cells #[.int .i64 3, .slice a1 n1 c1, .slice a2 n2 c2, .slice a3 n3 c3] 34); have s0 : (w.alloc (.cells #[.int .i64 3, .slice a1 n1 c1, .slice a2 n2 c2, .slice a3 n3 c3] 34)).cell? ⟨w.heap.size, 0, none⟩ = some (.int .i64 3) := by simp only [World.cell?, HA]; rfl
 have s1 : (w.alloc (.cells #[.int .i64 3, .slice a1 n1 c1, .slice a2 n2 c2, .slice a3 n3 c3] 34)).cell? ⟨w.heap.size, 1, none⟩ = some (.slice a1 n1 c1) := by simp only [World.cell?, HA]; rfl
 have s2 : (w.alloc (.cells #[.int .i64 3, .slice a1 n1 c1, .slice a2 n2 c2, .slice a3 n3 c3] 34)).cell? ⟨w.heap.size, 2, none⟩ = some (.slice a2 n2 c2) := by simp only [World.cell?, HA]; rfl
 have P0 : Hid _ := Pk.Sl_below hp.out b0; have V0 : Hid _ := Pk.Sl_below hv.out b0; have L0 : Hid _ := Pk.Sl_below hl.out b0; have t5 : n4 ≠ 0 := by
  obtain ⟨_, _, e1, _, _⟩ := hl.out; injection e1 with _ e3 _
  rw [e3]; exact fun h => hq (List.eq_nil_of_length_eq_zero h)
 have t4 : ((n4 : Int) == 0) = false := by rw [beq_eq_false_iff_ne]; omega
 have ev : Hid (va ((3 : Int), p, v, z) left = []) := by
  show _ = _
  unfold va here
  rw [if_neg (by simp [hq])]
 clear hq; clear HA; go_enter Try.func9, Try.ntmps9
 go_upto_region 1 with fail
 have B0 : Hid _ := b0; clear b0; generalize w.alloc (.cells #[.int .i64 3, .slice a1 n1 c1, .slice a2 n2 c2, .slice a3 n3 c3] 34) = W0 at *; go_wp2_with fail
 go_ret
 exact ⟨_, rfl, by rw [ev.out]; exact Pk.Sl_nil _, B0.out⟩
set_option maxHeartbeats 1000000 in
set_option maxRecDepth 100000 in
theorem va_other (p v left : Bs) (z : List Bs) (a1 a2 a3 a4 : Option Addr) (n1 c1 n2 c2 n3 c3 n4 c4 : Nat) (w : World) (hp : Hid (Pk.Sl p (.slice a1 n1 c1) w)) (hv : Hid (Pk.Sl v (.slice a2 n2 c2) w)) (hl : Hid (Pk.Sl left (.slice a4 n4 c4) w)) (kk : Int) (k1 : kk ≠ 1) (k3 : kk ≠ 3) :
  Calls Try.prog 9 #[.agg #[.int .i64 kk, .slice a1 n1 c1, .slice a2 n2 c2, .slice a3 n3 c3], .slice a4 n4 c4] w (VA ((kk : Int), p, v, z) left w) := by
 have b0 : Below w.heap.size w (w.alloc (.cells #[.int .i64 kk, .slice a1 n1 c1, .slice a2 n2 c2, .slice a3 n3 c3] 34)) := (Below.refl _ _).alloc (Nat.le_refl _) _; have HA := heap_alloc_new w (.cells #[.int .i64 kk, .slice a1 n1 c1, .slice a2 n2 c2, .slice a3 n3 c3] 34); have s0 : (w.alloc (.cells #[.int .i64 kk, .slice a1 n1 c1, .slice a2 n2 c2, .slice a3 n3 c3] 34)).cell? ⟨w.heap.size, 0, none⟩ = some (.int .i64 kk) := by simp only [World.cell?, HA]; rfl
 have s1 : (w.alloc (.cells #[.int .i64 kk, .slice a1 n1 c1, .slice a2 n2 c2, .slice a3 n3 c3] 34)).cell? ⟨w.heap.size, 1, none⟩ = some (.slice a1 n1 c1) := by simp only [World.cell?, HA]; rfl
 have s2 : (w.alloc (.cells #[.int .i64 kk, .slice a1 n1 c1, .slice a2 n2 c2, .slice a3 n3 c3] 34)).cell? ⟨w.heap.size, 2, none⟩ = some (.slice a2 n2 c2) := by simp only [World.cell?, HA]; rfl
 have P0 : Hid _ := Pk.Sl_below hp.out b0; have V0 : Hid _ := Pk.Sl_below hv.out b0; have L0 : Hid _ := Pk.Sl_below hl.out b0; have t1 : (kk == 1) = false := beq_eq_false_iff_ne.2 k1; have t3 : (kk == 3) = false := beq_eq_false_iff_ne.2 k3; have ev : Hid (va (kk, p, v, z) left = []) := by
  show _ = _
  unfold va here
  rw [if_neg (by simp [k1, k3])]
 clear k1 k3; clear HA; go_enter Try.func9, Try.ntmps9
 go_upto_region 1 with fail
 have B0 : Hid _ := b0; clear b0; generalize w.alloc (.cells #[.int .i64 kk, .slice a1 n1 c1, .slice a2 n2 c2, .slice a3 n3 c3] 34) = W0 at *; go_wp2_with fail
 go_ret
 exact ⟨_, rfl, by rw [ev.out]; exact Pk.Sl_nil _, B0.out⟩
theorem valueat_any (s : Shp) (left : Bs) (k : Int) (a1 a2 a3 a4 : Option Addr) (n1 c1 n2 c2 n3 c3 n4 c4 : Nat) (w : World) (hk : k = s.1) (hp : Pk.Sl s.2.1 (.slice a1 n1 c1) w) (hv : Pk.Sl s.2.2.1 (.slice a2 n2 c2) w) (hl : Pk.Sl left (.slice a4 n4 c4) w) :
  Calls Try.prog 9 #[.agg #[.int .i64 k, .slice a1 n1 c1, .slice a2 n2 c2, .slice a3 n3 c3], .slice a4 n4 c4] w (VA s left w) := by
 obtain ⟨k', p, v, z⟩ := s; dsimp only at hk hp hv; subst hk; by_cases h1 : k = 1
 ·subst h1; by_cases hq : p = left
  ·exact va_yes p v left z a1 a2 a3 a4 n1 c1 n2 c2 n3 c3 n4 c4 w hp hv hl hq
  ·exact va_no p v left z a1 a2 a3 a4 n1 c1 n2 c2 n3 c3 n4 c4 w hp hv hl hq
 by_cases h3 : k = 3
 ·subst h3; by_cases hq : left = []
  ·exact va_fork p v left z a1 a2 a3 a4 n1 c1 n2 c2 n3 c3 n4 c4 w hp hv hl hq
  ·exact va_forkn p v left z a1 a2 a3 a4 n1 c1 n2 c2 n3 c3 n4 c4 w hp hv hl hq
 ·exact va_other p v left z a1 a2 a3 a4 n1 c1 n2 c2 n3 c3 n4 c4 w hp hv hl k h1 h3
end Pf
end Go.Proofs.Ytlbdaccmnpcccaa
namespace Go.Proofs.Ytlbdaccmnpcccaa
namespace Pf
open Rs Go.RowKit Sp RI RH
def WR (gw : Nat) (cs : List Bs) (F : Nat → Int) (S : Bs) (v : Value) (w : World) : Prop := match pd cs true F S with
 | .inl z => v = .tuple #[.agg #[.int .i64 0, .slice none 0 0, .slice none 0 0, .slice none 0 0], .slice none 0 0, .int .i64 z]
 | .inr (s, l2, r) => ∃ a1 n1 c1 a2 n2 c2 a3 n3 c3 lv, v = .tuple #[.agg #[.int .i64 s.1, .slice a1 n1 c1, .slice a2 n2 c2, .slice a3 n3 c3], lv, .int .i64 0] ∧ Pk.Sl s.2.1 (.slice a1 n1 c1) w ∧ Pk.Sl s.2.2.1 (.slice a2 n2 c2) w ∧ Pk.Sl l2 lv w ∧ w.cell? ⟨gw, 1, none⟩ = some (.int .i64 ((cs.length - r.length : Nat) : Int))
theorem WR_of {gw : Nat} {cs : List Bs} {F : Nat → Int} {S : Bs} {w w' : World} {e : Ending} (h : WK gw cs F S w e w') : ∃ v, e = .returned v ∧ WR gw cs F S v w' ∧ w.grownBy w' (some gw) := by
 unfold WK at h
 unfold WR
 cases hq : pd cs true F S with
 | inl z =>
  rw [hq] at h; exact ⟨_, h.1, rfl, h.2⟩
 | inr t =>
  obtain ⟨s, l2, r⟩ := t; rw [hq] at h; obtain ⟨x, lv, e1, sh, ⟨k, a1, n1, c1, a2, n2, c2, a3, n3, c3, rfl⟩, hl, hc, hg⟩ := h; have hk : k = s.1 := by have := sh.1; injection this
  subst hk; exact ⟨_, e1, ⟨a1, n1, c1, a2, n2, c2, a3, n3, c3, lv, rfl, sh.2.1, sh.2.2.1, hl, hc⟩, hg⟩
theorem WR_below {gw : Nat} {cs : List Bs} {F : Nat → Int} {S : Bs} {v : Value} {w w' : World} (h : WR gw cs F S v w) (hb : Below w.heap.size w w') (hg : gw < w.heap.size) : WR gw cs F S v w' := by
 unfold WR at h ⊢
 split at h
 ·exact h
 ·obtain ⟨a1, n1, c1, a2, n2, c2, a3, n3, c3, lv, e, h1, h2, h3, h4⟩ := h; exact ⟨a1, n1, c1, a2, n2, c2, a3, n3, c3, lv, e, Pk.Sl_below h1 hb, Pk.Sl_below h2 hb, Pk.Sl_below h3 hb, (hb.cell (p := ⟨gw, 1, none⟩) hg).trans h4⟩
theorem WR_gb {gw g9 : Nat} {cs : List Bs} {F : Nat → Int} {S : Bs} {v : Value} {w w' : World} (h : WR gw cs F S v w) (hN : NB g9 w) (hb : w.grownBy w' (some g9)) (hg : gw < w.heap.size) (hne : gw ≠ g9) : WR gw cs F S v w' := by
 unfold WR at h ⊢
 split at h
 ·exact h
 ·obtain ⟨a1, n1, c1, a2, n2, c2, a3, n3, c3, lv, e, h1, h2, h3, h4⟩ := h; exact ⟨a1, n1, c1, a2, n2, c2, a3, n3, c3, lv, e, Sl_gb h1 hN hb, Sl_gb h2 hN hb, Sl_gb h3 hN hb, (World.cell?_of_block (a := ⟨gw, 1, none⟩) (hb.block gw hg (fun e => hne (by injection e)))).trans h4⟩
def pt (v : Value) (i : Nat) : Value := match v with
 | .tuple vs => vs.getD i undef
 | _ => undef
theorem WR_tup {gw : Nat} {cs : List Bs} {F : Nat → Int} {S : Bs} {v : Value} {w : World} (h : WR gw cs F S v w) : ∃ k a1 n1 c1 a2 n2 c2 a3 n3 c3 y z, v = .tuple #[.agg #[.int .i64 k, .slice a1 n1 c1, .slice a2 n2 c2, .slice a3 n3 c3], y, z] := by
 unfold WR at h
 split at h
 ·exact ⟨0, none, 0, 0, none, 0, 0, none, 0, 0, _, _, h⟩
 ·obtain ⟨a1, n1, c1, a2, n2, c2, a3, n3, c3, lv, e, _⟩ := h; exact ⟨_, a1, n1, c1, a2, n2, c2, a3, n3, c3, _, _, e⟩
structure CC (gw : Nat) (cs : List Bs) (cv : Value) (S : Bs) (F : Nat → Int) (w0 : World) (d : Nat → Bool) (U : Nat → Value) (wx : World) : Prop where
 hi : gw < w0.heap.size
 gb : w0.grownBy wx (some gw)
 pre : d 3 = false → WV gw cs cv 0 wx ∧ NB gw wx
 u2 : d 2 = true → d 3 = false → Tr.Bs (fun k => k < wx.heap.size ∧ k ≠ gw) S (U 2) wx
 u3 : d 3 = true → WR gw cs F S (U 3) wx
 u4 : d 4 = true → d 3 = true ∧ U 4 = U 3
 u5 : d 5 = true → d 4 = true ∧ U 5 = pt (U 3) 0
 u6 : d 6 = true → d 4 = true ∧ U 6 = pt (U 3) 1
 u7 : d 7 = true → d 4 = true ∧ U 7 = pt (U 3) 2
 u8 : d 8 = true → ∃ g9, U 8 = .pointer (some ⟨g9, 0, none⟩) ∧ w0.heap.size ≤ g9 ∧ g9 < wx.heap.size ∧ (d 9 = false → BS g9 wx)
 u9 : d 9 = true → d 8 = true ∧ d 5 = true ∧ ∃ g9 x y z t, U 8 = .pointer (some ⟨g9, 0, none⟩) ∧ pt (U 3) 0 = .agg #[x, y, z, t] ∧ wx.cell? ⟨g9, 0, none⟩ = some x ∧ wx.cell? ⟨g9, 1, none⟩ = some y ∧ wx.cell? ⟨g9, 2, none⟩ = some z ∧ wx.cell? ⟨g9, 3, none⟩ = some t
 u10 : d 10 = true → d 6 = true ∧ U 10 = pt (U 3) 1
variable {gw : Nat} {cs : List Bs} {cv : Value} {S : Bs} {F : Nat → Int} {w0 : World} {d : Nat → Bool} {U : Nat → Value} {wx : World}
theorem CC.on {w2 : World} (h : CC gw cs cv S F w0 d U wx) (hb : Below wx.heap.size wx w2) : CC gw cs cv S F w0 d U w2 := by
 have hg : gw < wx.heap.size := Nat.lt_of_lt_of_le h.hi h.gb.size; refine ⟨h.hi, gb_trans h.gb (gb_below hb), fun k => ?_, fun k k2 => Tr.Bs_mono (Tr.Bs_below (h.u2 k k2) hb) (fun j hj _ => ⟨Nat.lt_of_lt_of_le hj.1 hb.size, hj.2⟩), fun k => WR_below (h.u3 k) hb hg, h.u4, h.u5, h.u6, h.u7, fun k => ?_, fun k => ?_, h.u10⟩
 ·obtain ⟨a, b⟩ := h.pre k; exact ⟨⟨Nat.lt_of_lt_of_le a.hi hb.size, (hb.cell (p := ⟨gw, 0, none⟩) a.hi).trans a.c0, (hb.cell (p := ⟨gw, 1, none⟩) a.hi).trans a.c1, fun o => (hb.frozen (p := ⟨gw, o, none⟩) a.hi).trans (a.f o), Lz_below a.l hb⟩, NB_below b hb⟩
 ·obtain ⟨g9, e, h1, h2, h3⟩ := h.u8 k; exact ⟨g9, e, h1, Nat.lt_of_lt_of_le h2 hb.size, fun k9 => BS_gb (r := none) (h3 k9) (gb_below hb) nofun⟩
 ·obtain ⟨k8, k5, g9, x, y, z, t, e, e2, c0, c1, c2, c3⟩ := h.u9 k; obtain ⟨g9', e', _, h2, _⟩ := h.u8 k8; have : g9' = g9 := by rw [e] at e'; injection e' with e'; injection e' with e'; injection e' with e'; exact e'.symm
  subst this; exact ⟨k8, k5, g9', x, y, z, t, e, e2, (hb.cell (p := ⟨g9', 0, none⟩) h2).trans c0, (hb.cell (p := ⟨g9', 1, none⟩) h2).trans c1, (hb.cell (p := ⟨g9', 2, none⟩) h2).trans c2, (hb.cell (p := ⟨g9', 3, none⟩) h2).trans c3⟩
theorem CC.keep {i : Nat} (hi : i ≠ 2 ∧ i ≠ 3 ∧ i ≠ 4 ∧ i ≠ 5 ∧ i ≠ 6 ∧ i ≠ 7 ∧ i ≠ 8 ∧ i ≠ 9 ∧ i ≠ 10) (h : CC gw cs cv S F w0 d U wx) : CC gw cs cv S F w0 (don d i) U wx := by
 obtain ⟨i2, i3, i4, i5, i6, i7, i8, i9, i10⟩ := hi; have e2 : don d i 2 = d 2 := don_other _ _ _ (fun e => i2 e.symm)
 have e3 : don d i 3 = d 3 := don_other _ _ _ (fun e => i3 e.symm)
 have e4 : don d i 4 = d 4 := don_other _ _ _ (fun e => i4 e.symm)
 have e5 : don d i 5 = d 5 := don_other _ _ _ (fun e => i5 e.symm)
 have e6 : don d i 6 = d 6 := don_other _ _ _ (fun e => i6 e.symm)
 have e7 : don d i 7 = d 7 := don_other _ _ _ (fun e => i7 e.symm)
 have e8 : don d i 8 = d 8 := don_other _ _ _ (fun e => i8 e.symm)
 have e9 : don d i 9 = d 9 := don_other _ _ _ (fun e => i9 e.symm)
 have e10 : don d i 10 = d 10 := don_other _ _ _ (fun e => i10 e.symm)
 exact ⟨h.hi, h.gb, by rw [e3]; exact h.pre, by rw [e2, e3]; exact h.u2, by rw [e3]; exact h.u3, by rw [e4, e3]; exact h.u4, by rw [e5, e4]; exact h.u5, by rw [e6, e4]; exact h.u6, by rw [e7, e4]; exact h.u7, by rw [e8, e9]; exact h.u8, by rw [e9, e8, e5]; exact h.u9, by rw [e10, e6]; exact h.u10⟩
theorem CC.s2 {v : Value} {w2 : World} (h : CC gw cs cv S F w0 d U wx) (hb : Below wx.heap.size wx w2) (hs : Tr.Bs (fun k => k < w2.heap.size ∧ k ≠ gw) S v w2) : CC gw cs cv S F w0 (don d 2) (updU U 2 (v)) w2 := by
 have g := h.on hb; have e3 : don d 2 3 = d 3 := don_other _ _ _ (by decide); have e4 : don d 2 4 = d 4 := don_other _ _ _ (by decide); have e5 : don d 2 5 = d 5 := don_other _ _ _ (by decide); have e6 : don d 2 6 = d 6 := don_other _ _ _ (by decide); have e7 : don d 2 7 = d 7 := don_other _ _ _ (by decide); have e8 : don d 2 8 = d 8 := don_other _ _ _ (by decide); have e9 : don d 2 9 = d 9 := don_other _ _ _ (by decide); have e10 : don d 2 10 = d 10 := don_other _ _ _ (by decide); exact ⟨g.hi, g.gb, (by rw [e3]; exact g.pre), (fun _ _ => by rw [iU_s]; exact hs), (by rw [e3, iU_o (i := 2) (j := 3) _ _ (by decide)]; exact g.u3), (by rw [e4, e3, iU_o (i := 2) (j := 4) _ _ (by decide), iU_o (i := 2) (j := 3) _ _ (by decide)]; exact g.u4), (by rw [e5, e4, iU_o (i := 2) (j := 5) _ _ (by decide), iU_o (i := 2) (j := 3) _ _ (by decide)]; exact g.u5), (by rw [e6, e4, iU_o (i := 2) (j := 6) _ _ (by decide), iU_o (i := 2) (j := 3) _ _ (by decide)]; exact g.u6), (by rw [e7, e4, iU_o (i := 2) (j := 7) _ _ (by decide), iU_o (i := 2) (j := 3) _ _ (by decide)]; exact g.u7), (by rw [e8, e9, iU_o (i := 2) (j := 8) _ _ (by decide)]; exact g.u8), (by rw [e9, e8, e5, iU_o (i := 2) (j := 8) _ _ (by decide), iU_o (i := 2) (j := 3) _ _ (by decide)]; exact g.u9), (by rw [e10, e6, iU_o (i := 2) (j := 10) _ _ (by decide), iU_o (i := 2) (j := 3) _ _ (by decide)]; exact g.u10)⟩
theorem CC.s4 (h : CC gw cs cv S F w0 d U wx) (h4 : d 4 = false) (h3 : d 3 = true) : CC gw cs cv S F w0 (don d 4) (updU U 4 (U 3)) wx := by
 have g := h; have e2 : don d 4 2 = d 2 := don_other _ _ _ (by decide); have e3 : don d 4 3 = d 3 := don_other _ _ _ (by decide); have e5 : don d 4 5 = d 5 := don_other _ _ _ (by decide); have e6 : don d 4 6 = d 6 := don_other _ _ _ (by decide); have e7 : don d 4 7 = d 7 := don_other _ _ _ (by decide); have e8 : don d 4 8 = d 8 := don_other _ _ _ (by decide); have e9 : don d 4 9 = d 9 := don_other _ _ _ (by decide); have e10 : don d 4 10 = d 10 := don_other _ _ _ (by decide); exact ⟨g.hi, g.gb, (by rw [e3]; exact g.pre), (by rw [e2, e3, iU_o (i := 4) (j := 2) _ _ (by decide)]; exact g.u2), (by rw [e3, iU_o (i := 4) (j := 3) _ _ (by decide)]; exact g.u3), (fun _ => ⟨by rw [e3]; exact h3, by rw [iU_s, iU_o (i := 4) (j := 3) _ _ (by decide)]⟩), (by rw [e5]; exact fun k => absurd (g.u5 k).1 (by rw [h4]; decide)), (by rw [e6]; exact fun k => absurd (g.u6 k).1 (by rw [h4]; decide)), (by rw [e7]; exact fun k => absurd (g.u7 k).1 (by rw [h4]; decide)), (by rw [e8, e9, iU_o (i := 4) (j := 8) _ _ (by decide)]; exact g.u8), (by rw [e9, e8, e5, iU_o (i := 4) (j := 8) _ _ (by decide), iU_o (i := 4) (j := 3) _ _ (by decide)]; exact g.u9), (by rw [e10, e6, iU_o (i := 4) (j := 10) _ _ (by decide), iU_o (i := 4) (j := 3) _ _ (by decide)]; exact g.u10)⟩
theorem CC.s5 (h : CC gw cs cv S F w0 d U wx) (h5 : d 5 = false) (h4 : d 4 = true) : CC gw cs cv S F w0 (don d 5) (updU U 5 (pt (U 3) 0)) wx := by
 have g := h; have e2 : don d 5 2 = d 2 := don_other _ _ _ (by decide); have e3 : don d 5 3 = d 3 := don_other _ _ _ (by decide); have e4 : don d 5 4 = d 4 := don_other _ _ _ (by decide); have e6 : don d 5 6 = d 6 := don_other _ _ _ (by decide); have e7 : don d 5 7 = d 7 := don_other _ _ _ (by decide); have e8 : don d 5 8 = d 8 := don_other _ _ _ (by decide); have e9 : don d 5 9 = d 9 := don_other _ _ _ (by decide); have e10 : don d 5 10 = d 10 := don_other _ _ _ (by decide); exact ⟨g.hi, g.gb, (by rw [e3]; exact g.pre), (by rw [e2, e3, iU_o (i := 5) (j := 2) _ _ (by decide)]; exact g.u2), (by rw [e3, iU_o (i := 5) (j := 3) _ _ (by decide)]; exact g.u3), (by rw [e4, e3, iU_o (i := 5) (j := 4) _ _ (by decide), iU_o (i := 5) (j := 3) _ _ (by decide)]; exact g.u4), (fun _ => ⟨by rw [e4]; exact h4, by rw [iU_s, iU_o (i := 5) (j := 3) _ _ (by decide)]⟩), (by rw [e6, e4, iU_o (i := 5) (j := 6) _ _ (by decide), iU_o (i := 5) (j := 3) _ _ (by decide)]; exact g.u6), (by rw [e7, e4, iU_o (i := 5) (j := 7) _ _ (by decide), iU_o (i := 5) (j := 3) _ _ (by decide)]; exact g.u7), (by rw [e8, e9, iU_o (i := 5) (j := 8) _ _ (by decide)]; exact g.u8), (by rw [e9]; exact fun k => absurd (g.u9 k).2.1 (by rw [h5]; decide)), (by rw [e10, e6, iU_o (i := 5) (j := 10) _ _ (by decide), iU_o (i := 5) (j := 3) _ _ (by decide)]; exact g.u10)⟩
theorem CC.s6 (h : CC gw cs cv S F w0 d U wx) (h6 : d 6 = false) (h4 : d 4 = true) : CC gw cs cv S F w0 (don d 6) (updU U 6 (pt (U 3) 1)) wx := by
 have g := h; have e2 : don d 6 2 = d 2 := don_other _ _ _ (by decide); have e3 : don d 6 3 = d 3 := don_other _ _ _ (by decide); have e4 : don d 6 4 = d 4 := don_other _ _ _ (by decide); have e5 : don d 6 5 = d 5 := don_other _ _ _ (by decide); have e7 : don d 6 7 = d 7 := don_other _ _ _ (by decide); have e8 : don d 6 8 = d 8 := don_other _ _ _ (by decide); have e9 : don d 6 9 = d 9 := don_other _ _ _ (by decide); have e10 : don d 6 10 = d 10 := don_other _ _ _ (by decide); exact ⟨g.hi, g.gb, (by rw [e3]; exact g.pre), (by rw [e2, e3, iU_o (i := 6) (j := 2) _ _ (by decide)]; exact g.u2), (by rw [e3, iU_o (i := 6) (j := 3) _ _ (by decide)]; exact g.u3), (by rw [e4, e3, iU_o (i := 6) (j := 4) _ _ (by decide), iU_o (i := 6) (j := 3) _ _ (by decide)]; exact g.u4), (by rw [e5, e4, iU_o (i := 6) (j := 5) _ _ (by decide), iU_o (i := 6) (j := 3) _ _ (by decide)]; exact g.u5), (fun _ => ⟨by rw [e4]; exact h4, by rw [iU_s, iU_o (i := 6) (j := 3) _ _ (by decide)]⟩), (by rw [e7, e4, iU_o (i := 6) (j := 7) _ _ (by decide), iU_o (i := 6) (j := 3) _ _ (by decide)]; exact g.u7), (by rw [e8, e9, iU_o (i := 6) (j := 8) _ _ (by decide)]; exact g.u8), (by rw [e9, e8, e5, iU_o (i := 6) (j := 8) _ _ (by decide), iU_o (i := 6) (j := 3) _ _ (by decide)]; exact g.u9), (by rw [e10]; exact fun k => absurd (g.u10 k).1 (by rw [h6]; decide))⟩
theorem CC.s7 (h : CC gw cs cv S F w0 d U wx) (h4 : d 4 = true) : CC gw cs cv S F w0 (don d 7) (updU U 7 (pt (U 3) 2)) wx := by
 have g := h; have e2 : don d 7 2 = d 2 := don_other _ _ _ (by decide); have e3 : don d 7 3 = d 3 := don_other _ _ _ (by decide); have e4 : don d 7 4 = d 4 := don_other _ _ _ (by decide); have e5 : don d 7 5 = d 5 := don_other _ _ _ (by decide); have e6 : don d 7 6 = d 6 := don_other _ _ _ (by decide); have e8 : don d 7 8 = d 8 := don_other _ _ _ (by decide); have e9 : don d 7 9 = d 9 := don_other _ _ _ (by decide); have e10 : don d 7 10 = d 10 := don_other _ _ _ (by decide); exact ⟨g.hi, g.gb, (by rw [e3]; exact g.pre), (by rw [e2, e3, iU_o (i := 7) (j := 2) _ _ (by decide)]; exact g.u2), (by rw [e3, iU_o (i := 7) (j := 3) _ _ (by decide)]; exact g.u3), (by rw [e4, e3, iU_o (i := 7) (j := 4) _ _ (by decide), iU_o (i := 7) (j := 3) _ _ (by decide)]; exact g.u4), (by rw [e5, e4, iU_o (i := 7) (j := 5) _ _ (by decide), iU_o (i := 7) (j := 3) _ _ (by decide)]; exact g.u5), (by rw [e6, e4, iU_o (i := 7) (j := 6) _ _ (by decide), iU_o (i := 7) (j := 3) _ _ (by decide)]; exact g.u6), (fun _ => ⟨by rw [e4]; exact h4, by rw [iU_s, iU_o (i := 7) (j := 3) _ _ (by decide)]⟩), (by rw [e8, e9, iU_o (i := 7) (j := 8) _ _ (by decide)]; exact g.u8), (by rw [e9, e8, e5, iU_o (i := 7) (j := 8) _ _ (by decide), iU_o (i := 7) (j := 3) _ _ (by decide)]; exact g.u9), (by rw [e10, e6, iU_o (i := 7) (j := 10) _ _ (by decide), iU_o (i := 7) (j := 3) _ _ (by decide)]; exact g.u10)⟩
theorem CC.s10 (h : CC gw cs cv S F w0 d U wx) (h6 : d 6 = true) : CC gw cs cv S F w0 (don d 10) (updU U 10 (pt (U 3) 1)) wx := by
 have g := h; have e2 : don d 10 2 = d 2 := don_other _ _ _ (by decide); have e3 : don d 10 3 = d 3 := don_other _ _ _ (by decide); have e4 : don d 10 4 = d 4 := don_other _ _ _ (by decide); have e5 : don d 10 5 = d 5 := don_other _ _ _ (by decide); have e6 : don d 10 6 = d 6 := don_other _ _ _ (by decide); have e7 : don d 10 7 = d 7 := don_other _ _ _ (by decide); have e8 : don d 10 8 = d 8 := don_other _ _ _ (by decide); have e9 : don d 10 9 = d 9 := don_other _ _ _ (by decide); exact ⟨g.hi, g.gb, (by rw [e3]; exact g.pre), (by rw [e2, e3, iU_o (i := 10) (j := 2) _ _ (by decide)]; exact g.u2), (by rw [e3, iU_o (i := 10) (j := 3) _ _ (by decide)]; exact g.u3), (by rw [e4, e3, iU_o (i := 10) (j := 4) _ _ (by decide), iU_o (i := 10) (j := 3) _ _ (by decide)]; exact g.u4), (by rw [e5, e4, iU_o (i := 10) (j := 5) _ _ (by decide), iU_o (i := 10) (j := 3) _ _ (by decide)]; exact g.u5), (by rw [e6, e4, iU_o (i := 10) (j := 6) _ _ (by decide), iU_o (i := 10) (j := 3) _ _ (by decide)]; exact g.u6), (by rw [e7, e4, iU_o (i := 10) (j := 7) _ _ (by decide), iU_o (i := 10) (j := 3) _ _ (by decide)]; exact g.u7), (by rw [e8, e9, iU_o (i := 10) (j := 8) _ _ (by decide)]; exact g.u8), (by rw [e9, e8, e5, iU_o (i := 10) (j := 8) _ _ (by decide), iU_o (i := 10) (j := 3) _ _ (by decide)]; exact g.u9), (fun _ => ⟨by rw [e6]; exact h6, by rw [iU_s, iU_o (i := 10) (j := 3) _ _ (by decide)]⟩)⟩
theorem CC.s8 {w2 : World} (h : CC gw cs cv S F w0 d U wx) (h8 : d 8 = false) (hb : Below wx.heap.size wx w2) (hB : BS wx.heap.size w2) : CC gw cs cv S F w0 (don d 8) (updU U 8 (.pointer (some ⟨wx.heap.size, 0, none⟩))) w2 := by
 have g := h.on hb; have e2 : don d 8 2 = d 2 := don_other _ _ _ (by decide); have e3 : don d 8 3 = d 3 := don_other _ _ _ (by decide); have e4 : don d 8 4 = d 4 := don_other _ _ _ (by decide); have e5 : don d 8 5 = d 5 := don_other _ _ _ (by decide); have e6 : don d 8 6 = d 6 := don_other _ _ _ (by decide); have e7 : don d 8 7 = d 7 := don_other _ _ _ (by decide); have e9 : don d 8 9 = d 9 := don_other _ _ _ (by decide); have e10 : don d 8 10 = d 10 := don_other _ _ _ (by decide); exact ⟨g.hi, g.gb, (by rw [e3]; exact g.pre), (by rw [e2, e3, iU_o (i := 8) (j := 2) _ _ (by decide)]; exact g.u2), (by rw [e3, iU_o (i := 8) (j := 3) _ _ (by decide)]; exact g.u3), (by rw [e4, e3, iU_o (i := 8) (j := 4) _ _ (by decide), iU_o (i := 8) (j := 3) _ _ (by decide)]; exact g.u4), (by rw [e5, e4, iU_o (i := 8) (j := 5) _ _ (by decide), iU_o (i := 8) (j := 3) _ _ (by decide)]; exact g.u5), (by rw [e6, e4, iU_o (i := 8) (j := 6) _ _ (by decide), iU_o (i := 8) (j := 3) _ _ (by decide)]; exact g.u6), (by rw [e7, e4, iU_o (i := 8) (j := 7) _ _ (by decide), iU_o (i := 8) (j := 3) _ _ (by decide)]; exact g.u7), (fun _ => ⟨wx.heap.size, iU_s _ _ _, h.gb.size, hB.hi, fun _ => hB⟩), (by rw [e9]; exact fun k => absurd (g.u9 k).1 (by rw [h8]; decide)), (by rw [e10, e6, iU_o (i := 8) (j := 10) _ _ (by decide), iU_o (i := 8) (j := 3) _ _ (by decide)]; exact g.u10)⟩
theorem CC.s3 {v : Value} {w2 : World} (h : CC gw cs cv S F w0 d U wx) (h3 : d 3 = false) (hg : wx.grownBy w2 (some gw)) (hv : WR gw cs F S v w2) : CC gw cs cv S F w0 (don d 3) (updU U 3 v) w2 := by
 have e2 : don d 3 2 = d 2 := don_other _ _ _ (by decide); have e4 : don d 3 4 = d 4 := don_other _ _ _ (by decide); have e5 : don d 3 5 = d 5 := don_other _ _ _ (by decide); have e6 : don d 3 6 = d 6 := don_other _ _ _ (by decide); have e7 : don d 3 7 = d 7 := don_other _ _ _ (by decide); have e8 : don d 3 8 = d 8 := don_other _ _ _ (by decide); have e9 : don d 3 9 = d 9 := don_other _ _ _ (by decide); have e10 : don d 3 10 = d 10 := don_other _ _ _ (by decide); have e33 : don d 3 3 = true := don_same _ _; have h4 : d 4 ≠ true := fun k => absurd (h.u4 k).1 (by rw [h3]; decide)
 refine ⟨h.hi, gb_trans h.gb hg, fun k => absurd k (by rw [e33]; decide), fun _ k => absurd k (by rw [e33]; decide), fun _ => by rw [iU_s]; exact hv, fun k => absurd (by rw [← e4]; exact k) h4, fun k => absurd (h.u5 (by rw [← e5]; exact k)).1 h4, fun k => absurd (h.u6 (by rw [← e6]; exact k)).1 h4, fun k => absurd (h.u7 (by rw [← e7]; exact k)).1 h4, fun k => ?_, fun k => absurd (h.u5 (h.u9 (by rw [← e9]; exact k)).2.1).1 h4, fun k => absurd (h.u6 (h.u10 (by rw [← e10]; exact k)).1).1 h4⟩
 obtain ⟨g9, e, h1, h2, h5⟩ := h.u8 (by rw [← e8]; exact k)
 refine ⟨g9, by rw [iU_o (i := 3) (j := 8) _ _ (by decide)]; exact e, h1, Nat.lt_of_lt_of_le h2 hg.size, fun k9 => BS_gb (h5 (by rw [← e9]; exact k9)) hg (fun e => by injection e with e; have := h.hi; omega)⟩
theorem CC.s9 {w2 : World} {g9 : Nat} {x y z t v : Value} (h : CC gw cs cv S F w0 d U wx) (h8 : d 8 = true) (h5 : d 5 = true) (e8' : U 8 = .pointer (some ⟨g9, 0, none⟩)) (hge : w0.heap.size ≤ g9) (hlt : g9 < wx.heap.size) (hB : BS g9 wx) (hp : pt (U 3) 0 = .agg #[x, y, z, t]) (hg : wx.grownBy w2 (some g9)) (c0 : w2.cell? ⟨g9, 0, none⟩ = some x) (c1 : w2.cell? ⟨g9, 1, none⟩ = some y) (c2 : w2.cell? ⟨g9, 2, none⟩ = some z) (c3 : w2.cell? ⟨g9, 3, none⟩ = some t) : CC gw cs cv S F w0 (don d 9) (updU U 9 v) w2 := by
 have e2 : don d 9 2 = d 2 := don_other _ _ _ (by decide); have e3 : don d 9 3 = d 3 := don_other _ _ _ (by decide); have e4 : don d 9 4 = d 4 := don_other _ _ _ (by decide); have e5 : don d 9 5 = d 5 := don_other _ _ _ (by decide); have e6 : don d 9 6 = d 6 := don_other _ _ _ (by decide); have e7 : don d 9 7 = d 7 := don_other _ _ _ (by decide); have e8 : don d 9 8 = d 8 := don_other _ _ _ (by decide); have e10 : don d 9 10 = d 10 := don_other _ _ _ (by decide); have h4 := (h.u5 h5).1; have h3 := (h.u4 h4).1; have hgx : gw < wx.heap.size := Nat.lt_of_lt_of_le h.hi h.gb.size; refine ⟨h.hi, gb_up h.gb hg hge, fun k => absurd k (by rw [e3, h3]; decide), fun _ k => absurd k (by rw [e3, h3]; decide), fun _ => by rw [iU_o (i := 9) (j := 3) _ _ (by decide)]; exact WR_gb (h.u3 h3) (BS_nb hB) hg hgx (by have := h.hi; omega), ?_, ?_, ?_, ?_, fun _ => ⟨g9, by rw [iU_o (i := 9) (j := 8) _ _ (by decide)]; exact e8', hge, Nat.lt_of_lt_of_le hlt hg.size, fun k => absurd k (by rw [don_same]; decide)⟩, fun _ => ⟨by rw [e8]; exact h8, by rw [e5]; exact h5, g9, x, y, z, t, by rw [iU_o (i := 9) (j := 8) _ _ (by decide)]; exact e8', by rw [iU_o (i := 9) (j := 3) _ _ (by decide)]; exact hp, c0, c1, c2, c3⟩, ?_⟩
 ·rw [e4, e3, iU_o (i := 9) (j := 4) _ _ (by decide), iU_o (i := 9) (j := 3) _ _ (by decide)]; exact h.u4
 ·rw [e5, e4, iU_o (i := 9) (j := 5) _ _ (by decide), iU_o (i := 9) (j := 3) _ _ (by decide)]; exact h.u5
 ·rw [e6, e4, iU_o (i := 9) (j := 6) _ _ (by decide), iU_o (i := 9) (j := 3) _ _ (by decide)]; exact h.u6
 ·rw [e7, e4, iU_o (i := 9) (j := 7) _ _ (by decide), iU_o (i := 9) (j := 3) _ _ (by decide)]; exact h.u7
 ·rw [e10, e6, iU_o (i := 9) (j := 10) _ _ (by decide), iU_o (i := 9) (j := 3) _ _ (by decide)]; exact h.u10
theorem CC.start {w : World} (h : WV gw cs cv 0 w) (hn : NB gw w) : CC gw cs cv S F w (fun _ => false) (fun _ => undef) w.drew :=
 ⟨h.hi, gb_drew _ _, fun _ => ⟨⟨h.hi, h.c0, h.c1, h.f, Lz_below h.l (Below.refl _ _).drew⟩, NB_below hn (Below.refl _ _).drew⟩, nofun, nofun, nofun, nofun, nofun, nofun, nofun, nofun, nofun⟩
theorem CC.blw (h : CC gw cs cv S F w0 d U wx) : Below gw w0 wx := ⟨h.gb.os, h.gb.tape, h.gb.output, Nat.le_trans (by have := h.hi; omega) h.gb.size, fun k hk => h.gb.block k (by have := h.hi; omega) (fun e => by injection e with e; omega)⟩
theorem own_bs9 {lo : Nat} {b : Bs} {v : Value} {w : World} (h : w.ownsRow lo 5 1 v b.length (Pk.bcs b)) : Tr.Bs (lo ≤ ·) b v w := by
 rcases h.2 with ⟨h3, h4⟩ | ⟨g, cap, cur, h3, h5⟩
 ·have e : b = [] := List.length_eq_zero_iff.1 h4; subst e; exact ⟨none, 0, h3, Nat.le_refl _, fun h => absurd h (by simp)⟩
 ·subst h3; refine ⟨some ⟨g, 0, none⟩, cap, rfl, h5.2.2.1, fun _ => ⟨g, 0, rfl, h5.1, Pk.lt_of_heap h5.2.1, fun j hj => ?_⟩⟩
  rw [Nat.zero_add, h.cellAt j (by omega)]; simp [Pk.bcs, hj, Sp.bz]
theorem pd_z : ∀ (cs : List Bs) (first : Bool) (F : Nat → Int) (left : Bs) (z : Int), pd cs first F left = .inl z → z = 5 ∨ z = 4 ∨ z = 1
 | [], _, _, _, z, h => .inl (Sum.inl.inj h).symm
 | c :: r, first, F, left, z, h => by
  rw [pd] at h; split at h
  ·exact .inr (.inl (Sum.inl.inj h).symm)
  ·split at h
   ·exact .inr (.inr (Sum.inl.inj h).symm)
   ·split at h
    ·exact pd_z r false _ _ z h
    ·cases h
theorem pd_suf : ∀ (cs : List Bs) (first : Bool) (F : Nat → Int) (left : Bs) (s : Shp) (l2 : Bs) (t : List Bs), pd cs first F left = .inr (s, l2, t) → t.length < cs.length
 | [], _, _, _, s, l2, t, h => by cases h
 | c :: r, first, F, left, s, l2, t, h => by
  rw [pd] at h; split at h
  ·cases h
  ·split at h
   ·cases h
   ·split at h
    ·have := pd_suf r false _ _ s l2 t h; rw [List.length_cons]; omega
    ·have e := Sum.inr.inj h; injection e with _ e
     injection e with _ e
     rw [← e, List.length_cons]; omega
set_option maxHeartbeats 4000000 in
set_option maxRecDepth 100000 in
theorem check_any (F : Nat → Int) (key : Bs) (ak : Option Addr) (ck : Nat) (hk : key.length ≤ 32) (cs : List Bs) (cv : Value) (hl : cs.length ≤ 1048576) (hc : ∀ c ∈ cs, c.length ≤ 1048576) (w : World) (hkv : Sp.Vw key ak w) (hcv : Lz cs cv w) :
  Calls Try.prog 4 #[Hv F, .slice ak key.length ck, cv] w (SDP cs true F (Nb.hv key) w) := by
 have HKV : Hid (Sp.Vw key ak w) := hkv; have HCV : Hid (Lz cs cv w) := hcv; have HKL : Hid (key.length ≤ 32) := hk; have HLC : Hid (cs.length ≤ 1048576 ∧ ∀ c ∈ cs, c.length ≤ 1048576) := ⟨hl, hc⟩; obtain ⟨ca, cc, rfl, hcc, hcr⟩ := hcv; obtain ⟨m, hm⟩ : ∃ m, Hid (m = key.length) := ⟨_, rfl⟩; obtain ⟨n, hn⟩ : ∃ n, Hid (n = cs.length) := ⟨_, rfl⟩; have KI : Hid (∀ W : World, Calls Try.prog 6 #[.slice ak m ck] W fun e w' => e = .returned (.bool true) ∧ w' = W) := fun W => by
  have e : decide ((m : Int) ≤ 32) = true := decide_eq_true (by have := hm.out; have := HKL.out; omega)
  go_enter Try.func6, Try.ntmps6
  go_wp2_with fail
  go_ret
  exact ⟨rfl, rfl⟩
 have HRW : Hid (0 < cs.length → ∃ g off, ca = some ⟨g, off, none⟩ ∧ g < w.heap.size) := fun h0 => by obtain ⟨g, off, e, hg, _⟩ := hcr h0; exact ⟨g, off, e, hg⟩
 rw [← hm.out, ← hn.out]; clear hkv hcr hcc hk hl hc; go_enter Try.func4, Try.ntmps4
 dsimp only [Hv]; obtain ⟨hF, eF⟩ : ∃ x, Hid (x = (h32 F).toArray) := ⟨_, rfl⟩; rw [← eF.out]; go_wp2_with fail
 have k0 : Sp.CK .u8 w.heap.size 32 F (w.alloc (.cells hF 23)) := by rw [eF.out]; exact box_ck F w _
 have b0 : Below w.heap.size w (w.alloc (.cells hF 23)) := (Below.refl _ _).alloc (Nat.le_refl _) _; have z0 : (w.alloc (.cells hF 23)).heap.size = w.heap.size + 1 := by simp
 generalize w.alloc (.cells hF 23) = w1 at k0 b0 z0 ⊢; refine (KI.out w1).mono ?_; rintro e w1b ⟨rfl, rfl⟩; go_upto_region 4 with fail
 have bW : Below w1b.heap.size w1b (w1b.alloc (.cells #[.slice ca n cc, .int .i64 0] 32)) := (Below.refl _ _).alloc (Nat.le_refl _) _; have hW := heap_alloc_new w1b (.cells #[.slice ca n cc, .int .i64 0] 32 (0, 0)); have zW : (w1b.alloc (.cells #[.slice ca n cc, .int .i64 0] 32)).heap.size = w1b.heap.size + 1 := by simp
 generalize w1b.alloc (.cells #[.slice ca n cc, .int .i64 0] 32) = w2 at bW hW zW ⊢; obtain ⟨gw, hgw⟩ : ∃ gw, gw = w.heap.size + 1 := ⟨_, rfl⟩; rw [z0, ← hgw] at hW zW; rw [← hgw]; have HCK : Hid (Sp.CK .u8 w.heap.size 32 F w2) := fun o ho => (bW.cell (p := ⟨w.heap.size, o, none⟩) (by show w.heap.size < _; omega)).trans (k0 o ho)
 have HGH : Hid (w.heap.size < gw) := by show _ < _; omega
 have B2 : Hid (Below w.heap.size w w2) := b0.trans (bW.mono b0.size); have W0 : w2.cell? ⟨gw, 0, none⟩ = some (.slice ca n cc) := by simp only [World.cell?, hW]; rfl
 have W1 : w2.cell? ⟨gw, 1, none⟩ = some (.int .i64 0) := by simp only [World.cell?, hW]; rfl
 have HW2 : Hid (WV gw cs (.slice ca n cc) 0 w2) := ⟨by omega, W0, W1, fun o => by simp only [World.frozen?, hW]; simp, by rw [hn.out]; exact Lz_below HCV.out B2.out⟩
 have HNB : Hid (NB gw w2) := ⟨by omega, fun o x h => by
  match o with
  | 0 => rw [W0] at h; cases h
  | 1 => rw [W1] at h; cases h
  | o + 2 => simp only [World.cell?, hW] at h; simp at h⟩
 have HNE : Hid (0 < cs.length → (Value.slice ca n cc).ownBlock ≠ some gw) := fun h0 e => by
  obtain ⟨g, off, e1, hg⟩ := HRW.out h0; subst e1; injection e with e
  have e : g = gw := e; omega
 have KH : Hid (∀ W : World, Below gw w2 W → Calls Try.prog 8 #[.slice ak m ck] W fun e w' => ∃ v, e = .returned v ∧ (gw < W.heap.size → Tr.Bs (fun k => k < w'.heap.size ∧ k ≠ gw) (Nb.hv key) v w') ∧ Below W.heap.size W w') := fun W hb => by
  have hbw : Below w.heap.size w W := B2.out.trans (hb.mono (by have := HGH.out; omega))
  have k := Nb.halves_any key ak ck W (by have := HKL.out; show _ ≤ _; omega) (Sp.Vw_below HKV.out hbw)
  rw [← hm.out] at k; refine k.mono fun e w' he => ?_
  obtain ⟨v, rfl, ho, hb2⟩ := he; exact ⟨v, rfl, fun hg => Tr.Bs_mono (own_bs9 ho) (fun k h1 h2 => ⟨h2, fun e => by subst e; exact absurd (show W.heap.size ≤ k from h1) (by omega)⟩), hb2⟩
 have KW : Hid (∀ (v : Value) (W : World), WV gw cs (.slice ca n cc) 0 W → NB gw W → Tr.Bs (fun k => k < W.heap.size ∧ k ≠ gw) (Nb.hv key) v W → Calls Try.prog 7 #[.pointer (some ⟨gw, 0, none⟩), Hv F, v] W (WK gw cs F (Nb.hv key) W)) := fun v W h1 h2 h3 => walk_any gw cs (.slice ca n cc) F (Nb.hv key) v W h1 h2 HNE.out HLC.out.1 HLC.out.2 (hv_Hf key) h3
 clear k0 b0 z0 bW hW zW hgw W0 W1 eF KI HNE HRW HKV HCV HKL; refine RH.wp_region_genI (CC gw cs (.slice ca n cc) (Nb.hv key) F w2) [0, 0, 1, 1, 1, 1, 1, 1, 1, 1, 1, 2] (by kernel_rfl) (by kernel_rfl) (CC.start HW2.out HNB.out) ?_; dsimp only [List.toList_toArray]; refine RH.goD (v := ?_) (f' := ?_) rfl ?_ ?_ ?_; rotate_left 2
 ·intro U K d wx hI hmay hK; refine Hh.ld rfl rfl (fun o ho => ((CC.blw hI).cell (p := ⟨w.heap.size, o, none⟩) HGH.out).trans (HCK.out o ho)) ?_
  exact hK _ (CC.keep (by decide) hI)
 ·intro U; simp only [Act.put, zA, zB, zC]; rfl
 refine RH.goD (v := ?_) (f' := ?_) rfl ?_ ?_ ?_; rotate_left 2
 ·intro U K d wx hI hmay hK; go_simp; exact hK _ (CC.keep (by decide) hI)
 ·intro U; simp only [Act.put, zA, zB, zC]; rfl
 refine RH.goN (f' := ?_) rfl ?_ ?_ ?_; rotate_left 1
 ·intro U K d wx hI hmay hK; go_simp; refine (KH.out wx (CC.blw hI)).mono (fun e w3 he => ?_)
  obtain ⟨v, rfl, hs, hb⟩ := he; refine ⟨_, rfl, ?_⟩; exact hK _ _ (hI.s2 hb (hs (Nat.lt_of_lt_of_le hI.hi hI.gb.size)))
 ·intro U; simp only [Act.put, zA, zB, zC]; rfl
 refine RH.goN (f' := ?_) rfl ?_ ?_ ?_; rotate_left 1
 ·intro U K d wx hI hmay hK; have hd := hmay.2 _ rfl; simp [Region.binds] at hd
  have h3 := hmay.1; obtain ⟨hp1, hp2⟩ := hI.pre h3; have h2 := hI.u2 (by simp [hd]) h3; go_simp; refine (KW.out (U 2) wx hp1 hp2 h2).mono (fun e w3 he => ?_)
  obtain ⟨v, rfl, hs, hb⟩ := WR_of he; refine ⟨_, rfl, ?_⟩; exact hK _ _ (hI.s3 h3 hb hs)
 ·intro U; simp only [Act.put, zA, zB, zC]; rfl
 refine RH.goN (f' := ?_) rfl ?_ ?_ ?_; rotate_left 1
 ·intro U K d wx hI hmay hK; have hd := hmay.2 _ rfl; simp [Region.binds] at hd
  have h4 := hmay.1; go_simp; exact hK _ _ (hI.s4 h4 (by simp [hd]))
 ·intro U; simp only [Act.put, zA, zB, zC]; rfl
 refine RH.goN (f' := ?_) rfl ?_ ?_ ?_; rotate_left 1
 ·intro U K d wx hI hmay hK; have hd := hmay.2 _ rfl; simp [Region.binds] at hd
  have h5 := hmay.1; have h4 : d 4 = true := by simp [hd]
  obtain ⟨h3, e4⟩ := hI.u4 h4; obtain ⟨k, a1, n1, c1, a2, n2, c2, a3, n3, c3, y, t, ev⟩ := WR_tup (hI.u3 h3); go_simp; try rw [e4, ev]
  try go_simp
  have := hK _ _ (hI.s5 h5 h4); rw [ev] at this; exact this
 ·intro U; simp only [Act.put, zA, zB, zC]; rfl
 refine RH.goN (f' := ?_) rfl ?_ ?_ ?_; rotate_left 1
 ·intro U K d wx hI hmay hK; have hd := hmay.2 _ rfl; simp [Region.binds] at hd
  have h6 := hmay.1; have h4 : d 4 = true := by simp [hd]
  obtain ⟨h3, e4⟩ := hI.u4 h4; obtain ⟨k, a1, n1, c1, a2, n2, c2, a3, n3, c3, y, t, ev⟩ := WR_tup (hI.u3 h3); go_simp; try rw [e4, ev]
  try go_simp
  have := hK _ _ (hI.s6 h6 h4); rw [ev] at this; exact this
 ·intro U; simp only [Act.put, zA, zB, zC]; rfl
 refine RH.goN (f' := ?_) rfl ?_ ?_ ?_; rotate_left 1
 ·intro U K d wx hI hmay hK; have hd := hmay.2 _ rfl; simp [Region.binds] at hd
  have h4 : d 4 = true := by simp [hd]
  obtain ⟨h3, e4⟩ := hI.u4 h4; obtain ⟨k, a1, n1, c1, a2, n2, c2, a3, n3, c3, y, t, ev⟩ := WR_tup (hI.u3 h3); go_simp; try rw [e4, ev]
  try go_simp
  have := hK _ _ (hI.s7 h4); rw [ev] at this; exact this
 ·intro U; simp only [Act.put, zA, zB, zC]; rfl
 refine RH.goN (f' := ?_) rfl ?_ ?_ ?_; rotate_left 1
 ·intro U K d wx hI hmay hK; have h8 := hmay.1; go_simp; exact hK _ _ (hI.s8 h8 ((Below.refl _ _).alloc (Nat.le_refl _) _) (BS_new wx))
 ·intro U; simp only [Act.put, zA, zB, zC]; rfl
 refine RH.goN (f' := ?_) rfl ?_ ?_ ?_; rotate_left 1
 ·intro U K d wx hI hmay hK; have hd := hmay.2 _ rfl; simp [Region.binds] at hd
  have h9 := hmay.1; have h8 : d 8 = true := by simp [hd]
  have h5 : d 5 = true := by simp [hd]
  obtain ⟨g9, e8, k1, k2, k3⟩ := hI.u8 h8; obtain ⟨h4, e5⟩ := hI.u5 h5; obtain ⟨h3, e4⟩ := hI.u4 h4; obtain ⟨k, a1, n1, c1, a2, n2, c2, a3, n3, c3, y, t, ev⟩ := WR_tup (hI.u3 h3); have ep : pt (U 3) 0 = .agg #[.int .i64 k, .slice a1 n1 c1, .slice a2 n2 c2, .slice a3 n3 c3] := by rw [ev]; rfl
  refine upv_stS rfl e8 (e5.trans ep) (k3 h9) (fun w3 gg q0 q1 q2 q3 => ?_)
  exact hK _ _ (hI.s9 h8 h5 e8 k1 k2 (k3 h9) ep gg q0 q1 q2 q3)
 ·intro U; simp only [Act.put]; rfl
 refine RH.goN (f' := ?_) rfl ?_ ?_ ?_; rotate_left 1
 ·intro U K d wx hI hmay hK; have hd := hmay.2 _ rfl; simp [Region.binds] at hd
  have h6 : d 6 = true := by simp [hd]
  obtain ⟨h4, e6⟩ := hI.u6 h6; go_simp; have := hK _ _ (hI.s10 h6); first | exact this | (rw [← e6] at this; exact this)
 ·intro U; simp only [Act.put, zA, zB, zC]; rfl
 refine RH.goT ?_; refine RH.go_end ?_; intro d9 U w9 h9 hall; simp +decide only [RH.tl, if_true, if_false]
 have e10 := (h9.u10 (hall 10 (by decide))).2; have e7 := (h9.u7 (hall 7 (by decide))).2; have hu := h9.u3 (hall 3 (by decide)); obtain ⟨_, _, g9, x, y, t, q, e8, ep, c0, c1, c2, c3⟩ := h9.u9 (hall 9 (by decide)); have hbl := CC.blw h9; have BL : Hid (Below w.heap.size w w9) := B2.out.trans (hbl.mono (by have := HGH.out; omega))
 have hgi : gw < w9.heap.size := Nat.lt_of_lt_of_le h9.hi h9.gb.size; clear h9 hall hbl; unfold WR at hu
 have hsp := sd_pd cs true F (Nb.hv key); cases hpd : pd cs true F (Nb.hv key) with
 | inl z =>
  rw [hpd] at hu hsp; dsimp only at hu hsp; have hz : (z != 0) = true := by rcases pd_z cs true F _ z hpd with rfl | rfl | rfl <;> rfl
  have hz2 : ¬ z = 0 := by rcases pd_z cs true F _ z hpd with rfl | rfl | rfl <;> decide
  rw [hu] at e7 e10; have e7 : U 7 = .int .i64 z := e7; rw [e7, e8]; have HS : Hid (SDP cs true F (Nb.hv key) w (.returned (.tuple #[.slice none 0 0, .int .i64 z])) w9) := sdp_bad hsp BL.out; clear hu hsp hpd e7 e8 e10 ep c0 c1 c2 c3; go_wp2_with fail
  go_ret2
  exact HS.out
 | inr u =>
  obtain ⟨s, l2, r⟩ := u; rw [hpd] at hu hsp; dsimp only at hu hsp; obtain ⟨a1, n1, c1', a2, n2, c2', a3, n3, c3', lv, ev, h1, h2, h3, h4⟩ := hu; rw [ev] at e7 e10 ep; have e7 : U 7 = .int .i64 0 := e7; have e10 : U 10 = lv := e10; have ep : Value.agg #[.int .i64 s.1, .slice a1 n1 c1', .slice a2 n2 c2', .slice a3 n3 c3'] = .agg #[x, y, t, q] := ep; injection ep with ep
  have ep := congrArg Array.toList ep; simp only [List.cons.injEq, and_true] at ep; obtain ⟨rfl, rfl, rfl, rfl⟩ := ep; rw [e7, e8, e10]; have hlt := pd_suf cs true F _ s l2 r hpd; obtain ⟨al, nl, cl, rfl⟩ : ∃ a n c, lv = .slice a n c := by obtain ⟨a, c, e, _⟩ := h3; exact ⟨a, _, c, e⟩
  by_cases hr : r = []
  ·subst hr; rw [if_pos rfl] at hsp; have KV : Hid (∀ W : World, Below w9.heap.size w9 W → Calls Try.prog 9 #[.agg #[.int .i64 s.1, .slice a1 n1 c1', .slice a2 n2 c2', .slice a3 n3 c3'], .slice al nl cl] W (VA s l2 W)) := fun W hW => valueat_any s l2 s.1 a1 a2 a3 al n1 c1' n2 c2' n3 c3' nl cl W rfl (Pk.Sl_below h1 hW) (Pk.Sl_below h2 hW) (Pk.Sl_below h3 hW)
   rw [show cs.length - ([] : List Bs).length = n by rw [hn.out]; rfl] at h4
   have HS : Hid (∀ v w', Pk.Sl (va s l2) v w' → Below w.heap.size w w' → SDP cs true F (Nb.hv key) w (.returned (.tuple #[v, .int .i64 0])) w') := fun v w' k1 k2 => ⟨v, by rw [hsp], by rw [hsp]; exact k1, k2⟩
   have d5 : decide ((n : Int) < (n : Int)) = false := decide_eq_false (by omega); clear h1 h2 h3 hsp hpd ev e7 e8 e10 hlt; go_wp2_with fail
   refine (KV.out w9 (Below.refl _ _)).mono ?_; rintro e w10 ⟨rv, rfl, k1, k2⟩; have HT := HS.out rv w10 k1 (BL.out.trans (k2.mono BL.out.size)); have HT : Hid _ := HT; clear k1 k2; go_wp2_with fail
   go_ret2
   exact HT.out
  ·rw [if_neg hr] at hsp; have hrl : 0 < r.length := Nat.pos_of_ne_zero (fun e => hr (List.length_eq_zero_iff.1 e))
   obtain ⟨j, hj⟩ : ∃ j, Hid (j = cs.length - r.length) := ⟨_, rfl⟩; rw [← hj.out] at h4; have d5 : decide ((j : Int) < (n : Int)) = true := decide_eq_true (by have := hj.out; have := hn.out; omega)
   have d6 : (j : Int) < (n : Int) := by have := hj.out; have := hn.out; omega
   have HS : Hid (SDP cs true F (Nb.hv key) w (.returned (.tuple #[.slice none 0 0, .int .i64 6])) w9) := sdp_bad hsp BL.out; clear h1 h2 h3 hsp hpd ev e7 e8 e10 hlt hr hrl; go_wp2_with fail
   go_ret2
   exact HS.out
end Pf
end Go.Proofs.Ytlbdaccmnpcccaa
namespace Go.Proofs.Ytlbdaccmnpcccaa
namespace Pf
open Rs Go.RowKit Sp
theorem check_bad (F : Nat → Int) (m : Nat) (ak : Option Addr) (ck : Nat) (hk : Hid (32 < m)) (ca : Option Addr) (n cc : Nat) (w : World) :
  Calls Try.prog 4 #[Hv F, .slice ak m ck, .slice ca n cc] w fun e w' => e = .returned (.tuple #[.slice none 0 0, .int .i64 3]) ∧ Below w.heap.size w w' := by
 have KI : Hid (∀ W : World, Calls Try.prog 6 #[.slice ak m ck] W fun e w' => e = .returned (.bool false) ∧ w' = W) := fun W => by
  have e : decide ((m : Int) ≤ 32) = false := decide_eq_false (by have := hk.out; omega)
  have e2 : ¬ (m : Int) ≤ 32 := by have := hk.out; omega
  go_enter Try.func6, Try.ntmps6
  go_wp2_with fail
  go_ret
  exact ⟨rfl, rfl⟩
 go_enter Try.func4, Try.ntmps4
 dsimp only [Hv]; generalize (h32 F).toArray = hF; go_wp2_with fail
 have b0 : Below w.heap.size w (w.alloc (.cells hF 23)) := (Below.refl _ _).alloc (Nat.le_refl _) _; have B0 : Hid _ := b0; clear b0; refine (KI.out _).mono ?_; rintro e w1 ⟨rfl, rfl⟩; go_wp2_with fail
 go_ret2
 exact ⟨rfl, B0.out⟩
theorem icheck_bad (F : Nat → Int) (m : Nat) (ak : Option Addr) (ck : Nat) (hk : Hid (32 < m)) (ca : Option Addr) (n cc : Nat) (w : World) :
  Calls Try.prog 5 #[Hv F, .slice ak m ck, .slice ca n cc] w fun e w' => e = .returned (.tuple #[.slice none 0 0, .int .i64 3]) ∧ Below w.heap.size w w' := by
 have d0 : decide ((32 : Int) < (m : Int)) = true := decide_eq_true (by have := hk.out; omega)
 have d1 : (32 : Int) < (m : Int) := by have := hk.out; omega
 go_enter Try.func5, Try.ntmps5
 dsimp only [Hv]; generalize (h32 F).toArray = hF; go_wp2_with fail
 have b0 : Below w.heap.size w (w.alloc (.cells hF 23)) := (Below.refl _ _).alloc (Nat.le_refl _) _; go_ret2
 exact ⟨rfl, b0⟩
set_option maxHeartbeats 2000000 in
set_option maxRecDepth 100000 in
theorem checks_at (F : Nat → Int) (m : Nat) (ak : Option Addr) (ck : Nat) (ca : Option Addr) (n cc : Nat) (w : World) (P : Bs) (z : Int)
  (KC : Hid (∀ W : World, Below w.heap.size w W → Calls Try.prog 4 #[Hv F, .slice ak m ck, .slice ca n cc] W fun e w' => ∃ v, e = .returned (.tuple #[v, .int .i64 z]) ∧ Pk.Sl P v w' ∧ Below W.heap.size W w'))
  (KI : Hid (∀ W : World, Below w.heap.size w W → Calls Try.prog 5 #[Hv F, .slice ak m ck, .slice ca n cc] W fun e w' => ∃ v, e = .returned (.tuple #[v, .int .i64 z]) ∧ Pk.Sl P v w' ∧ Below W.heap.size W w')) :
  Calls Try.prog 3 #[Hv F, .slice ak m ck, .slice ca n cc] w fun e w' => e = .returned (.bool true) ∧ Below w.heap.size w w' := by
 go_enter Try.func3, Try.ntmps3
 dsimp only [Hv]; obtain ⟨hF, eF⟩ : ∃ x, Hid (x = (h32 F).toArray) := ⟨_, rfl⟩; rw [← eF.out]; go_upto_region 1 with fail
 have hW := heap_alloc_new w (.cells hF 23 (0, 0)); have b0 : Below w.heap.size w (w.alloc (.cells hF 23)) := (Below.refl _ _).alloc (Nat.le_refl _) _; generalize w.alloc (.cells hF 23) = w1 at hW b0 ⊢; rw [eF.out] at hW; have HR1 : Hid (w1.heap[w.heap.size]? = some (.cells (h32 F).toArray 23 (0, 0))) := hW; have r1 := row_rng hW; have B1 : Hid (Below w.heap.size w w1) := b0; clear hW b0 eF; go_wp2_with (refine wpList_load_mid rfl 23 (.tmp 3) rfl w.heap.size 0 rfl (h32 F) _ r1 Try.underlying23 rfl info32 ?_)
 refine (KC.out w1 B1.out).mono ?_; rintro e w2 ⟨v1, rfl, s1, b2⟩; have r2 := row_rng ((b2.block w.heap.size (Pk.lt_of_heap HR1.out)).trans HR1.out); have B2 : Hid (Below w.heap.size w w2) := B1.out.trans (b2.mono B1.out.size); have S1 : Hid (Pk.Sl P v1 w2) := s1; clear b2 s1 KC HR1 B1 r1; go_wp2_with (refine wpList_load_mid rfl 23 (.tmp 3) rfl w.heap.size 0 rfl (h32 F) _ r2 Try.underlying23 rfl info32 ?_)
 refine (KI.out w2 B2.out).mono ?_; rintro e w3 ⟨v2, rfl, s2, b3⟩; have B3 : Hid (Below w.heap.size w w3) := B2.out.trans (b3.mono B2.out.size); have hc1 : (convert 24 9 v1).run Try.prog w3 = .ok (.string ⟨P.toArray⟩) w3 := Pk.Sl_conv (Pk.Sl_below S1.out b3); have hc2 : (convert 24 9 v2).run Try.prog w3 = .ok (.string ⟨P.toArray⟩) w3 := Pk.Sl_conv s2; clear b3 s2 KI S1 B2 r2; go_wp2_with fail
 go_ret
 exact ⟨rfl, B3.out⟩
theorem law_pchecks (F : Nat → Int) (key : Bs) (ak : Option Addr) (ck : Nat) (cs : List Bs) (cv : Value) (hl : cs.length ≤ 1048576) (hc : ∀ c ∈ cs, c.length ≤ 1048576) (w : World) (hkv : Sp.Vw key ak w) (hcv : Lz cs cv w) :
  Calls Try.prog 3 #[Hv F, .slice ak key.length ck, cv] w fun e w' => e = .returned (.bool true) ∧ Below w.heap.size w w' := by
 have HCV := hcv; obtain ⟨ca, cc, rfl, _, _⟩ := hcv; by_cases h : 32 < key.length
 ·exact checks_at F key.length ak ck ca cs.length cc w [] 3 (fun W _ => (check_bad F key.length ak ck h ca cs.length cc W).mono fun e w' he => ⟨_, he.1, Pk.Sl_nil _, he.2⟩) (fun W _ => (icheck_bad F key.length ak ck h ca cs.length cc W).mono fun e w' he => ⟨_, he.1, Pk.Sl_nil _, he.2⟩)
 ·exact checks_at F key.length ak ck ca cs.length cc w (sd cs true F (Nb.hv key)).1 (sd cs true F (Nb.hv key)).2 (fun W hW => check_any F key ak ck (by omega) cs _ hl hc W (Sp.Vw_below hkv hW) (Lz_below HCV hW)) (fun W hW => icheck_any F key ak ck (by omega) cs _ hc W (Sp.Vw_below hkv hW) (Lz_below HCV hW))
theorem mem_fl {cs : List Bs} {c : Bs} (h : c ∈ cs) : c.length ≤ cs.flatten.length := by
 induction cs with
 | nil => cases h
 | cons x r ih =>
  rw [List.flatten_cons, List.length_append]; rcases List.mem_cons.1 h with rfl | h
  ·omega
  ·have := ih h; omega
end Pf
end Go.Proofs.Ytlbdaccmnpcccaa
namespace Go.Proofs.Ytlbdaccmnpcccaa
namespace Sp
open Go.ChangeShapes Go.WideShapes Go.ChangeAt Go.RowKit
set_option maxRecDepth 100000 in
theorem open_bytes2 {H : Type} {enc : TypeId × Value → H} {W : World} {r : Reach} {b0 : Nat} {v : Value} {d : DataW H} {p : List MemPlace}
  (hv : Value.okWide Try.prog W r b0 24 v) (h : DataW.Trod enc Try.prog W 0 (fun _ => true) true 24 v d p) :
  ∃ (l : List UInt8) (ao : Option Addr) (cap : Nat), v = .slice ao l.length cap ∧ l.length ≤ cap ∧ (cap : Int) ≤ 9223372036854775807 ∧ Vw l ao W ∧ (l = [] ∨ ∃ elems spare, d = .slice elems spare ∧ elems.length = l.length) := by
 obtain ⟨l, ao, cap, rfl, h1, h2, h3⟩ := open_bytes hv h; refine ⟨l, ao, cap, rfl, h1, ?_, h2, h3⟩; obtain ⟨fuel, hf⟩ := h; rcases open_ints Try.underlying24 Try.underlying5 cellsU8 hf with ⟨hcs, _⟩ | ⟨a, len', cap', zs, hcs, _, _, hm, _⟩
 ·simp [Value.cells] at hcs
  omega
 ·simp [Value.cells] at hcs
  obtain ⟨_, _, rfl⟩ := hcs; unfold maxLen at hm
  omega
end Sp
end Go.Proofs.Ytlbdaccmnpcccaa
namespace Go.Proofs.Ytlbdaccmnpcccaa
namespace Bl
open Go.RowKit
def o8 (F : Nat → Bool) : Nat → Nat
 | 0 => 0
 | n + 1 => o8 F n + if F n = true then 2 ^ n else 0
theorem o8_lt (F : Nat → Bool) : ∀ n, o8 F n < 2 ^ n
 | 0 => by simp [o8]
 | n + 1 => by
  have := o8_lt F n; rw [o8, Nat.pow_succ]; split <;> omega
theorem o8_bit (F : Nat → Bool) (i : Nat) : ∀ n, (o8 F n).testBit i = (decide (i < n) && F i)
 | 0 => by simp [o8]
 | n + 1 => by
  have ih := o8_bit F i n; have hl := o8_lt F n; rw [o8]; by_cases h : F n = true
  ·rw [if_pos h, Nat.add_comm]; rcases Nat.lt_trichotomy i n with hin | hin | hin
   ·rw [Nat.testBit_two_pow_add_gt hin, ih, decide_eq_true hin, decide_eq_true (show i < n + 1 by omega)]
   ·subst hin; rw [Nat.testBit_two_pow_add_eq, Nat.testBit_lt_two_pow hl, decide_eq_true (show i < i + 1 by omega), h]; rfl
   ·rw [decide_eq_false (show ¬ i < n + 1 by omega), Nat.testBit_lt_two_pow]
    ·rfl
    ·have : 2 ^ (n + 1) ≤ 2 ^ i := Nat.pow_le_pow_right (by decide) (by omega); rw [Nat.pow_succ] at this; omega
  ·rw [if_neg h, Nat.add_zero, ih]; by_cases hin : i = n
   ·subst hin; rw [decide_eq_false (show ¬ i < i by omega), Bool.eq_false_iff.2 h]; simp
   ·by_cases h2 : i < n
    ·rw [decide_eq_true h2, decide_eq_true (show i < n + 1 by omega)]
    ·rw [decide_eq_false h2, decide_eq_false (show ¬ i < n + 1 by omega)]
def by8 (P : Nat → Bool) (j : Nat) : Nat := o8 (fun i => P (8 * j + i)) 8
theorem by8_bit (P : Nat → Bool) (j i : Nat) : (by8 P j).testBit i = (decide (i < 8) && P (8 * j + i)) := o8_bit _ _ _
def FB (P : Nat → Bool) (j : Nat) : Int := (by8 P j : Int)
def bt (F : Nat → Int) (n : Nat) : Bool := (F (n / 8)).toNat.testBit (n % 8)
theorem FB_bt (F : Nat → Int) (h : ∀ j, j < 32 → 0 ≤ F j ∧ F j < 256) (j : Nat) (hj : j < 32) : FB (bt F) j = F j := by
 have hb := h j hj; unfold FB
 have e : by8 (bt F) j = (F j).toNat := by
  apply Nat.eq_of_testBit_eq
  intro i; rw [by8_bit]; by_cases hi : i < 8
  ·rw [decide_eq_true hi, Bool.true_and]; unfold bt
   rw [show (8 * j + i) / 8 = j by omega, show (8 * j + i) % 8 = i by omega]
  ·rw [decide_eq_false hi, Nat.testBit_lt_two_pow]
   ·rfl
   ·have : 2 ^ 8 ≤ 2 ^ i := Nat.pow_le_pow_right (by decide) (by omega); omega
 rw [e]; omega
def tb (l : List UInt8) (n : Nat) : Bool := decide ((Sp.sumf l 0) = (n : Int)) || decide ((Sp.sumf l 1) = (n : Int)) || decide ((Sp.sumf l 2) = (n : Int))
def of (ps : List (List UInt8)) (n : Nat) : Bool := ps.any fun l => tb l n
end Bl
end Go.Proofs.Ytlbdaccmnpcccaa
namespace Go.Proofs.Ytlbdaccmnpcccaa
namespace Bl
open Go.ChangeShapes Go.WideShapes Go.ChangeAt Go.RowKit Go.Joins
theorem cellsHash : Try.prog.cellsOf 23 = 32 := by kernel_rfl
theorem okWide_arr {P : Program} {w : World} {r : Reach} {base : Nat} {t e : TypeId} {n : Nat} {v : Value} (ht : P.underlying t = some (.array n e)) (h : Value.okWide P w r base t v) : ∃ cs, v = .agg cs ∧ cs.size = P.cellsOf t := by
 simp only [Value.okWide, ht] at h; obtain ⟨cs, h1, h2, _⟩ := h; exact ⟨cs, h1, h2⟩
def nm : Value → Int
 | .int _ a => a
 | _ => 0
set_option maxRecDepth 100000 in
theorem open_hash {H : Type} {enc : TypeId × Value → H} {W : World} {r : Reach} {b0 base : Nat} {spare : Nat → Bool} {held : Bool} {v : Value} {d : DataW H} {p : List MemPlace}
  (hv : Value.okWide Try.prog W r b0 23 v) (h : DataW.Trod enc Try.prog W base spare held 23 v d p) : ∃ P : Nat → Bool, v = Sp.Hv (FB P) := by
 obtain ⟨cs, rfl, hsz⟩ := okWide_arr Try.underlying23 hv; rw [cellsHash] at hsz; obtain ⟨fuel, hf⟩ := h; obtain ⟨xs, m, _, _, _, hl, hi⟩ := DataW.trod_array Try.underlying23 (by simpa [Value.cells] using hf); rw [Sp.cellsU8] at hi; have g : ∀ i, i < 32 → ∃ a : Int, (0 ≤ a ∧ a < 256) ∧ cs[i]? = some (.int .u8 a) := by
  intro i h8; have hx := hi i h8; rw [List.getElem?_eq_getElem (by omega)] at hx; obtain ⟨a, e0, _, wa⟩ := DataW.trod_int Try.underlying5 hx; have := bounds_u8 wa; refine ⟨a, ⟨by omega, by omega⟩, ?_⟩; have e1 := congrArg (fun l => l[0]?) e0
  simpa using e1
 refine ⟨bt (fun i => nm (cs.getD i (.int .u8 0))), ?_⟩
 have e : cs = (Sp.h32 (FB (bt (fun i => nm (cs.getD i (.int .u8 0)))))).toArray := by
  apply Array.ext_getElem?
  intro i; by_cases h8 : i < 32
  ·obtain ⟨a, ha, hc⟩ := g i h8; rw [hc, List.getElem?_toArray, Sp.h32_get _ _ h8, FB_bt _ (fun j hj => ?_) i h8]
   ·simp [Array.getD_eq_getD_getElem?, hc, nm]
   ·obtain ⟨a', ha', hc'⟩ := g j hj; simpa [Array.getD_eq_getD_getElem?, hc', nm] using ha'
  ·rw [Array.getElem?_eq_none (by omega), Array.getElem?_eq_none (by rw [List.size_toArray, Sp.h32_length]; omega)]
 unfold Sp.Hv
 rw [← e]
end Bl
end Go.Proofs.Ytlbdaccmnpcccaa
