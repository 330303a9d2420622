/- lampbearerref.PEncode. -/
import Derived.Test.YtcgimjlmihaegaaPackF
import Derived.Test.YtcgimjlmihaegaaPackB
import Derived.Test.YtcgimjlmihaegaaPackE
import Derived.Test.YtcgimjlmihaegaaPackC
import Derived.Test.YtcgimjlmihaegaaPackD
import Derived.Deep.AppendLies
namespace Go.Proofs.Ytcgimjlmihaegaa
namespace Pk
open Go.RowKit
theorem hdr_9 (m n : Nat) (h : n < 18446744073709551616) : (hdr m n).length ≤ 9 := by
  unfold hdr
  split
  · simp
  · have := nu_8 n h
    rw [List.length_cons]; omega
theorem enc_one (c : UInt8) (ks : List It) (h : c.toNat < 128) : enc (.mk false [c] ks) = [c] := by
  unfold enc
  rw [if_pos]
  exact ⟨rfl, by have : Sp.bz [c] 0 = (c.toNat : Int) := rfl; omega⟩
set_option maxHeartbeats 1000000 in
set_option maxRecDepth 100000 in
theorem pencode_one (c : UInt8) (a1 a2 : Option Addr) (n2 c1 c2 : Nat) (w : World) (hc : c.toNat < 128) (hs : Sl [c] (.slice a1 1 c1) w) :
    Calls Try.prog 37 #[.agg #[.bool false, .slice a1 1 c1, .slice a2 n2 c2]] w fun e w' => ∃ v, e = .returned v ∧ Sl [c] v w' ∧ Below w.heap.size w w' := by
  have B1 : Below w.heap.size w (w.alloc (.cells #[.bool false, .slice a1 1 c1, .slice a2 n2 c2] 42)) := (Below.refl _ _).alloc (Nat.le_refl _) _
  have q1 : (convert 22 9 (.slice a1 1 c1)).run Try.prog (w.alloc (.cells #[.bool false, .slice a1 1 c1, .slice a2 n2 c2] 42)) = .ok (.string ⟨#[c]⟩) (w.alloc (.cells #[.bool false, .slice a1 1 c1, .slice a2 n2 c2] 42)) := Sl_conv (Sl_below hs B1)
  obtain ⟨k, W, hcv', h2, h3⟩ := str_sl [c] (w.alloc (.cells #[.bool false, .slice a1 1 c1, .slice a2 n2 c2] 42))
  have hcv : (convert 9 22 (.string ⟨#[c]⟩)).run Try.prog (w.alloc (.cells #[.bool false, .slice a1 1 c1, .slice a2 n2 c2] 42)) = .ok (.slice (some ⟨(w.alloc (.cells #[.bool false, .slice a1 1 c1, .slice a2 n2 c2] 42)).heap.size, 0, none⟩) 1 k) W := hcv'
  have hsz : (w.alloc (.cells #[.bool false, .slice a1 1 c1, .slice a2 n2 c2] 42)).heap.size = w.heap.size + 1 := by simp
  rw [hsz] at h2
  have HR : Hid (∃ v, Ending.returned (.slice (some ⟨w.heap.size + 1, 0, none⟩) 1 k) = .returned v ∧ Sl [c] v W ∧ Below w.heap.size w W) := ⟨_, rfl, h2, B1.trans (h3.mono B1.size)⟩
  have hx : ((⟨#[c]⟩ : ByteArray)[0]'Nat.zero_lt_one).toNat = c.toNat := rfl
  have d0 : decide ((c.toNat : Int) < 128) = true := decide_eq_true (by omega)
  have d1 : (c.toNat : Int) < 128 := by omega
  clear hcv' h2 h3 B1 hs hc hsz
  go_enter Try.func37, Try.ntmps37
  go_wp2_with fail
  go_ret
  exact HR.out
set_option maxHeartbeats 1000000 in
set_option maxRecDepth 100000 in
/-- A text that stands behind its head. -/
theorem pencode_head (t : List UInt8) (n : Nat) (a1 a2 : Option Addr) (n2 c1 c2 : Nat) (w : World) (hn : n = t.length) (hz : n ≤ 4194304) (hs : Sl t (.slice a1 n c1) w) (ht : n = 1 → ∃ c : UInt8, t = [c] ∧ 128 ≤ c.toNat) :
    Calls Try.prog 37 #[.agg #[.bool false, .slice a1 n c1, .slice a2 n2 c2]] w fun e w' => ∃ v, e = .returned v ∧ Sl (hdr 128 n ++ t) v w' ∧ Below w.heap.size w w' := by
  have B1 : Below w.heap.size w (w.alloc (.cells #[.bool false, .slice a1 n c1, .slice a2 n2 c2] 42)) := (Below.refl _ _).alloc (Nat.le_refl _) _
  have q1 := Sl_bst (Sl_below hs B1)
  have hN := heap_alloc_new w (.cells #[.bool false, .slice a1 n c1, .slice a2 n2 c2] 42)
  have KH : Hid (∀ W : World, Calls Try.prog 55 #[.int .i64 (n : Int), .bool false] W fun e w' => e = .returned (.string (bst (hdr 128 n))) ∧ Below W.heap.size W w') := fun W => phead_any false n W hz
  have KC : Hid (∀ W : World, ∃ c W', (convert 9 22 (.string (bst (hdr 128 n ++ t)))).run Try.prog W = .ok (.slice (some ⟨W.heap.size, 0, none⟩) (hdr 128 n ++ t).length c) W' ∧ Sl (hdr 128 n ++ t) (.slice (some ⟨W.heap.size, 0, none⟩) (hdr 128 n ++ t).length c) W' ∧ Below W.heap.size W W') := fun W => str_sl _ W
  have HC : Hid (∀ W : World, (Op.stringOp .add (bst (hdr 128 n)) (bst t)).run Try.prog W = .ok (.string (bst (hdr 128 n ++ t))) W) := fun W => cat_bst _ _ (by have := hdr_9 128 n (by omega); omega) (by omega) W
  by_cases h1 : n = 1
  · obtain ⟨c, rfl, hc⟩ := ht h1
    subst h1
    have d0 : decide ((c.toNat : Int) < 128) = false := decide_eq_false (by omega)
    have d1 : ¬ (c.toNat : Int) < 128 := by omega
    have e1 : bst [c] = ⟨#[c]⟩ := rfl
    rw [e1] at q1 HC
    have BH : Hid _ := B1
    generalize bst (hdr 128 1 ++ [c]) = Z at *
    generalize hdr 128 1 ++ [c] = E at *
    generalize bst (hdr 128 1) = H at *
    clear e1 ht hz hs hn B1 hc
    go_enter Try.func37, Try.ntmps37
    go_wp2_with fail
    refine (KH.out _).mono (fun e w2 he => ?_)
    obtain ⟨rfl, b2⟩ := he
    obtain ⟨k, W, hcv, h2, h3⟩ := KC.out w2
    have HR : Hid (Sl E (.slice (some ⟨w2.heap.size, 0, none⟩) E.length k) W ∧ Below w.heap.size w W) := ⟨h2, (BH.out.trans (b2.mono BH.out.size)).trans (h3.mono (Nat.le_trans BH.out.size b2.size))⟩
    generalize E.length = L at *
    have q3 := HC.out w2
    clear h2 h3 b2 KC KH BH HC
    go_wp2_with fail
    go_ret
    exact ⟨_, rfl, HR.out⟩
  · have hX : (bst t).size = n := by rw [bst_size, hn]
    have d0 : ((n : Int) == 1) = false := beq_eq_false_iff_ne.2 (by omega)
    have d1 : ¬ (n : Int) = 1 := by omega
    have d2 : (n == 1) = false := beq_eq_false_iff_ne.2 h1
    have BH : Hid _ := B1
    generalize bst (hdr 128 n ++ t) = Z at *
    generalize hdr 128 n ++ t = E at *
    generalize bst (hdr 128 n) = H at *
    generalize bst t = X at *
    clear ht hz hs hn B1
    go_enter Try.func37, Try.ntmps37
    go_wp2_with fail
    refine (KH.out _).mono (fun e w2 he => ?_)
    obtain ⟨rfl, b2⟩ := he
    obtain ⟨k, W, hcv, h2, h3⟩ := KC.out w2
    have HR : Hid (Sl E (.slice (some ⟨w2.heap.size, 0, none⟩) E.length k) W ∧ Below w.heap.size w W) := ⟨h2, (BH.out.trans (b2.mono BH.out.size)).trans (h3.mono (Nat.le_trans BH.out.size b2.size))⟩
    generalize E.length = L at *
    have q3 := HC.out w2
    clear h2 h3 b2 KC KH BH HC
    go_wp2_with fail
    go_ret
    exact ⟨_, rfl, HR.out⟩
/-- A list, once its kids are known. -/
theorem take_encs (ks : List It) (k : Nat) (h : k < ks.length) : encs (ks.take k) ++ enc (ks.getD k It.no) = encs (ks.take (k + 1)) := by
  induction ks generalizing k with
  | nil => exact absurd h (by simp)
  | cons x r ih =>
    cases k with
    | zero => simp [encs]
    | succ k =>
      have := ih k (by simpa using h)
      rw [List.take_succ_cons, List.take_succ_cons, List.getD_cons_succ]
      unfold encs
      rw [List.append_assoc, this]
theorem encs_take (ks : List It) (k : Nat) : (encs (ks.take k)).length ≤ (encs ks).length := by
  induction ks generalizing k with
  | nil => simp
  | cons x r ih =>
    cases k with
    | zero => simp [encs]
    | succ k =>
      rw [List.take_succ_cons]
      unfold encs
      rw [List.length_append, List.length_append]
      have := ih k
      omega
set_option maxHeartbeats 1000000 in
set_option maxRecDepth 100000 in
theorem pencode_list (S : Nat → Prop) (ks : List It) (vs : List V3) (a1 a2 : Option Addr) (n1 c1 c2 n N : Nat) (T : ByteArray) (w : World) (hn : Hid (n = vs.length)) (hl : Hid (vs.length = ks.length)) (hk : Hid (Kx S vs (.slice a2 n c2) w)) (hi : Hid (∀ j, j < ks.length → Iv S w (ks.getD j It.no) (vs.getD j n3)))
    (hT : Hid (∀ W : World, Below w.heap.size w W → (convert 22 9 (.slice a1 n1 c1)).run Try.prog W = .ok (.string T) W))
    (IH : Hid (∀ j, j < ks.length → ∀ (v : V3) (w : World), Iv S w (ks.getD j It.no) v → Calls Try.prog 37 #[v3 v] w fun e w' => ∃ v, e = .returned v ∧ Sl (enc (ks.getD j It.no)) v w' ∧ Below w.heap.size w w')) (hN : Hid (N = (encs ks).length)) (hz : Hid (N ≤ 4194304)) :
    Calls Try.prog 37 #[.agg #[.bool true, .slice a1 n1 c1, .slice a2 n c2]] w fun e w' => ∃ v, e = .returned v ∧ Sl (hdr 192 N ++ encs ks) v w' ∧ Below w.heap.size w w' := by
  have B0 : Below w.heap.size w (w.alloc (.cells #[.bool true, .slice a1 n1 c1, .slice a2 n c2] 42)) := (Below.refl _ _).alloc (Nat.le_refl _) _
  have hT0 := hT.out _ B0
  go_enter Try.func37, Try.ntmps37
  go_wp2_with fail
  clear hT hT0
  have hA := heap_alloc_new w (.cells #[.bool true, .slice a1 n1 c1, .slice a2 n c2] 42)
  have ht : (w.alloc (.cells #[.bool true, .slice a1 n1 c1, .slice a2 n c2] 42)).cell? ⟨w.heap.size, 0, none⟩ = some (.bool true) := by simp only [World.cell?, hA]; rfl
  have hs : w.heap.size < (w.alloc (.cells #[.bool true, .slice a1 n1 c1, .slice a2 n c2] 42)).heap.size := by simp
  clear hA
  generalize w.alloc (.cells #[.bool true, .slice a1 n1 c1, .slice a2 n c2] 42) = W0 at *
  obtain ⟨g, eg⟩ : ∃ g, g = w.heap.size := ⟨_, rfl⟩
  have EG : Hid (g = w.heap.size) := eg
  rw [← eg] at B0 ht hs ⊢
  clear eg
  go_loopw [3, 14] (fun s i wr => ∃ k : Nat, k ≤ n ∧ s = .string (bst (encs (ks.take k))) ∧ i = .int .i64 (k : Int) ∧ Below W0.heap.size W0 wr) (fun _ i _ => ((n : Int) - intOf i).toNat)
  case atStart => exact ⟨0, Nat.zero_le _, rfl, rfl, Below.refl _ _⟩
  case round =>
    obtain ⟨k, hkn, rfl, rfl, hB⟩ := hrel
    by_cases hlt : k < n
    · have d0 : decide ((k : Int) < (n : Int)) = true := decide_eq_true (by omega)
      have d1 : (0 : Int) ≤ (k : Int) := by omega
      have d2 : (k : Int) < (n : Int) := by omega
      have hks : k < ks.length := by have := hn.out; have := hl.out; omega
      obtain ⟨ao, cap, e2, -, hq⟩ := hk.out
      obtain ⟨gk, off, rfl, -, hgk, hcell⟩ := hq (by have := hn.out; omega)
      injection e2 with e2 e2' e2''
      subst e2
      clear e2' e2''
      obtain ⟨x0, x1, x2⟩ := hcell k (by have := hn.out; omega)
      have iv := hi.out k hks
      obtain ⟨l, b1, m1, q1, b2, m2, q2, ev⟩ := Iv_form iv
      rw [ev] at x0 x1 x2 iv
      have HC : Hid (∀ W : World, (Op.stringOp .add (bst (encs (ks.take k))) (bst (enc (ks.getD k It.no)))).run Try.prog W = .ok (.string (bst (encs (ks.take (k + 1))))) W) := fun W => by
        have h1 := encs_take ks k
        have h2 := encs_one ks k hks
        have h3 := hz.out
        have h4 := hN.out
        rw [cat_bst _ _ (by omega) (by omega), take_encs ks k hks]
      have KB : Hid (∀ w : World, Iv S w (ks.getD k It.no) (.bool l, .slice b1 m1 q1, .slice b2 m2 q2) → Calls Try.prog 37 #[.agg #[.bool l, .slice b1 m1 q1, .slice b2 m2 q2]] w fun e w' => ∃ v, e = .returned v ∧ Sl (enc (ks.getD k It.no)) v w' ∧ Below w.heap.size w w') := IH.out k hks (.bool l, .slice b1 m1 q1, .slice b2 m2 q2)
      have BW : Below w.heap.size w wr := (EG.out ▸ B0).trans (hB.mono (by have := EG.out; omega))
      have y0 := (BW.cell (p := ⟨gk, off + 3 * k, none⟩) hgk).trans x0
      have y1 := (BW.cell (p := ⟨gk, off + 3 * k + 1, none⟩) hgk).trans x1
      have y2 := (BW.cell (p := ⟨gk, off + 3 * k + 2, none⟩) hgk).trans x2
      have hgk2 : gk < wr.heap.size := Nat.lt_of_lt_of_le hgk BW.size
      rw [Nat.mul_comm 3 k] at y0 y1 y2
      have IW : Hid (Iv S (wr.alloc (.cells #[.bool l, .slice b1 m1 q1, .slice b2 m2 q2] 42)) (ks.getD k It.no) (.bool l, .slice b1 m1 q1, .slice b2 m2 q2)) := Iv_below (Iv_gb (r := none) iv (gb_below BW) (fun _ _ => nofun)) ((Below.refl _ _).alloc (Nat.le_refl _) _)
      have B2 : Hid (Below W0.heap.size W0 (wr.alloc (.cells #[.bool l, .slice b1 m1 q1, .slice b2 m2 q2] 42))) := hB.alloc hB.size _
      have e5 : Hid (wrap64 ((k : Int) + 1) = ((k + 1 : Nat) : Int)) := by
        have := hz.out
        have := hN.out
        have := encs_many ks
        have := hn.out
        have := hl.out
        show _ = _; unfold wrap64; omega
      obtain ⟨Y, hY⟩ : ∃ Y, Y = bst (encs (ks.take (k + 1))) := ⟨_, rfl⟩
      have HY : Hid (Y = bst (encs (ks.take (k + 1)))) := hY
      rw [← hY] at HC
      generalize bst (encs (ks.take k)) = X at *
      clear hq hcell x0 x1 x2 ev hks iv BW hY
      go_wp2_with fail
      refine (KB.out _ IW.out).mono (fun e w5 he => ?_)
      obtain ⟨v, rfl, hs5, b5⟩ := he
      have B5 : Hid (Below W0.heap.size W0 w5) := B2.out.trans (b5.mono B2.out.size)
      have q5 := Sl_bst hs5
      have q6 := HC.out w5
      obtain ⟨a5, n5, rfl, -, -⟩ := hs5
      generalize bst (enc (ks.getD k It.no)) = E5 at *
      generalize (enc (ks.getD k It.no)).length = n6 at *
      clear KB IW B2 y0 y1 y2 b5 HC
      go_wp2_with fail
      rw [e5.out]
      exact ⟨⟨k + 1, hlt, by rw [HY.out], rfl, B5.out⟩, msr_up k n hlt⟩
    · have d0 : decide ((k : Int) < (n : Int)) = false := decide_eq_false (by omega)
      have ek : ks.take k = ks := List.take_of_length_le (by have := hn.out; have := hl.out; omega)
      rw [ek]
      have ht2 : wr.cell? ⟨g, 0, none⟩ = some (.bool true) := (hB.cell (p := ⟨g, 0, none⟩) hs).trans ht
      have hgw : g < wr.heap.size := Nat.lt_of_lt_of_le hs hB.size
      have BF : Hid (Below w.heap.size w wr) := (EG.out ▸ B0).trans (hB.mono (by have := EG.out; omega))
      have hX : (bst (encs ks)).size = N := by rw [bst_size, hN.out]
      have KH : Hid (∀ W : World, Calls Try.prog 55 #[.int .i64 (N : Int), .bool true] W fun e w' => e = .returned (.string (bst (hdr 192 N))) ∧ Below W.heap.size W w') := fun W => phead_any true N W hz.out
      have KC : Hid (∀ W : World, ∃ c W', (convert 9 22 (.string (bst (hdr 192 N ++ encs ks)))).run Try.prog W = .ok (.slice (some ⟨W.heap.size, 0, none⟩) (hdr 192 N ++ encs ks).length c) W' ∧ Sl (hdr 192 N ++ encs ks) (.slice (some ⟨W.heap.size, 0, none⟩) (hdr 192 N ++ encs ks).length c) W' ∧ Below W.heap.size W W') := fun W => str_sl _ W
      have HC : Hid (∀ W : World, (Op.stringOp .add (bst (hdr 192 N)) (bst (encs ks))).run Try.prog W = .ok (.string (bst (hdr 192 N ++ encs ks))) W) := fun W => cat_bst _ _ (by have := hdr_9 192 N (by have := hz.out; omega); omega) (by have := hz.out; have := hN.out; omega) W
      generalize bst (hdr 192 N ++ encs ks) = Z at *
      obtain ⟨E, hE⟩ : ∃ E, E = hdr 192 N ++ encs ks := ⟨_, rfl⟩
      have HE : Hid (E = hdr 192 N ++ encs ks) := hE
      rw [← hE] at KC
      clear hE
      generalize bst (encs ks) = X at *
      generalize bst (hdr 192 N) = H at *
      clear ek
      go_wp2_with fail
      refine (KH.out _).mono (fun e w2 he => ?_)
      obtain ⟨rfl, b2⟩ := he
      obtain ⟨k2, W, hcv, h2, h3⟩ := KC.out w2
      have HR : Hid (Sl (hdr 192 N ++ encs ks) (.slice (some ⟨w2.heap.size, 0, none⟩) E.length k2) W ∧ Below w.heap.size w W) := ⟨HE.out ▸ h2, (BF.out.trans (b2.mono BF.out.size)).trans (h3.mono (Nat.le_trans BF.out.size b2.size))⟩
      clear HE
      generalize E.length = L at *
      have q3 := HC.out w2
      clear h2 h3 b2 KC KH HC
      go_wp2_with fail
      go_ret
      exact ⟨_, rfl, HR.out⟩
theorem enc_text (t : List UInt8) (ks : List It) (h : ¬ ∃ c : UInt8, t = [c] ∧ c.toNat < 128) : enc (.mk false t ks) = hdr 128 t.length ++ t := by
  unfold enc
  rw [if_neg]
  intro h2
  apply h
  match t, h2 with
  | [c], h2 => exact ⟨c, rfl, by have : Sp.bz [c] 0 = (c.toNat : Int) := rfl; have := h2.2; omega⟩
  | [], h2 => simp at h2
  | _ :: _ :: _, h2 => simp at h2
theorem pencode_any {t : It} (hb : Wf t) : (enc t).length ≤ 1048576 → ∀ (S : Nat → Prop) (v : V3) (w : World), Iv S w t v → Calls Try.prog 37 #[v3 v] w fun e w' => ∃ v, e = .returned v ∧ Sl (enc t) v w' ∧ Below w.heap.size w w' := by
  induction hb with
  | mk l t ks _ ih =>
    intro hz S v w h
    cases h with
    | mk _ _ _ tv kv vs ht hl hk hi =>
      have h7 := Ty_sl ht
      obtain ⟨a1, c1, rfl, -, -⟩ := ht
      have hk2 := hk
      obtain ⟨a2, c2, rfl, -, -⟩ := hk
      cases l with
      | false =>
        have hlen := enc_text_len t ks
        by_cases h1 : ∃ c : UInt8, t = [c] ∧ c.toNat < 128
        · obtain ⟨c, rfl, hc⟩ := h1
          rw [enc_one c ks hc]
          exact pencode_one c a1 a2 _ c1 c2 w hc h7
        · rw [enc_text t ks h1]
          exact pencode_head t t.length a1 a2 _ c1 c2 w rfl (by omega) h7 (fun e => by
            obtain ⟨c, rfl⟩ := List.length_eq_one_iff.1 e
            refine ⟨c, rfl, ?_⟩
            rcases Nat.lt_or_ge c.toNat 128 with h | h
            · exact absurd ⟨c, rfl, h⟩ h1
            · exact h)
      | true =>
        have h1 : (encs ks).length ≤ (enc (.mk true t ks)).length := by
          unfold enc
          rw [List.length_append]; omega
        have e : enc (.mk true t ks) = hdr 192 (encs ks).length ++ encs ks := by unfold enc; rfl
        rw [e]
        exact pencode_list S ks vs a1 a2 _ c1 c2 vs.length (encs ks).length (bst t) w rfl hl hk2 hi (fun W hW => Sl_bst (Sl_below h7 hW)) (fun j hj v w h => ih j hj (by have := encs_one ks j hj; omega) S v w h) rfl (by show _ ≤ _; omega)
end Pk
end Go.Proofs.Ytcgimjlmihaegaa
/- lampbearerref.shapeItem at every shape; how long a shape's form is. -/
namespace Go.Proofs.Ytcgimjlmihaegaa
namespace Rs
open Nb Sp Pk Go.RowKit
theorem pt1 : Hid (∀ (a : Option Addr) (m c : Nat) (wx : World), Calls Try.prog 52 #[.slice a m c] wx fun e w' => e = .returned (.agg #[.bool false, .slice a m c, .slice none 0 0]) ∧ Below wx.heap.size wx w') := fun a m c wx => ptext_any a m c wx
theorem pl1 : Hid (∀ (a : Option Addr) (m c : Nat) (wx : World), Calls Try.prog 53 #[.slice a m c] wx fun e w' => e = .returned (.agg #[.bool true, .slice none 0 0, .slice a m c]) ∧ Below wx.heap.size wx w') := fun a m c wx => plist_sl a m c wx
theorem shapeitem_any (s : Shp) (x : V4) (w : World) (h : Sh s x w) (hp : s.2.1.length ≤ 4194300) :
    Calls Try.prog 36 #[v4 x] w fun e w' => ∃ v, e = .returned (.tuple #[v3 v, .bool (isS s)]) ∧ (isS s = true → Iv (fun _ => True) w' (itS s) v) ∧ Below w.heap.size w w' ∧ Fm v := by
  obtain ⟨a1, c1, a2, c2, a3, c3, rfl⟩ := Sh_form h
  obtain ⟨kk, p, v, ks⟩ := s
  dsimp only at hp
  have vw : Hid (∀ W, Below w.heap.size w W → Vw p a1 W) := fun W hb => by
    obtain ⟨ao, cap, e, _, hv⟩ := (Sh_below h hb).2.1
    injection e with e1 _ _
    rwa [← e1] at hv
  have hc1 : p.length ≤ c1 := by
    obtain ⟨ao, cap, e, hc, _⟩ := h.2.1
    injection e with _ _ e3
    rw [e3]; exact hc
  have KN : ∀ leaf, Hid (∀ wx : World, Below w.heap.size w wx → Calls Try.prog 35 #[.slice a1 p.length c1, .bool leaf] wx fun e w' => ∃ v z, e = .returned (.tuple #[v, .int .i64 z]) ∧ Sl (jl (tg p leaf)) v w' ∧ Below wx.heap.size wx w') := fun leaf wx hb =>
    (ntag_sl p leaf a1 c1 wx (by show _ ≤ _; omega) hc1 (vw.out wx hb)).mono fun e w' he => by
      obtain ⟨v, h1, h2, h3⟩ := he
      exact ⟨v, _, h1, h2, h3⟩
  have hz : Hid (p.length ≤ 4194300) := hp
  have hu : Hid (∀ W, Below w.heap.size w W → Sl v (.slice a2 v.length c2) W) := fun W hb => (Sh_below h hb).2.2.1
  by_cases k0 : kk = 0
  · subst k0
    have e1 : isS (0, p, v, ks) = true := rfl
    rw [e1]
    exact si_none a1 a2 a3 _ c1 _ c2 _ c3 p w rfl hz vw (fun wx => pt1.out _ _ _ wx)
  by_cases k1 : kk = 1
  · subst k1
    have e0 : isS (1, p, v, ks) = (pb p && (decide (0 < v.length) && decide (v.length ≤ 1024))) := rfl
    cases hB : pb p with
    | false =>
      rw [show isS (1, p, v, ks) = false by rw [e0, hB]; rfl]
      exact (si_leaf_b a1 a2 a3 _ c1 _ c2 _ c3 p w rfl hz vw hB).mono fun e w' he => by obtain ⟨v, h1, _, h2⟩ := he; exact ⟨v, h1, nofun, h2⟩
    | true =>
      by_cases h0 : v.length = 0
      · rw [show isS (1, p, v, ks) = false by rw [e0, h0]; simp]
        exact (si_leaf_0 a1 a2 a3 _ c1 _ c2 _ c3 p w rfl hz vw hB h0).mono fun e w' he => by obtain ⟨v, h1, _, h2⟩ := he; exact ⟨v, h1, nofun, h2⟩
      · by_cases hm : v.length ≤ 1024
        · have hv0 : 0 < v.length := by omega
          rw [show isS (1, p, v, ks) = true by rw [e0, hB]; simp [hv0, hm]]
          exact si_leaf a1 a2 a3 _ c1 _ c2 _ c3 p w rfl hz vw (jl (tg p true)) hB pt1 pl1 (KN true) v hu hv0 hm
        · rw [show isS (1, p, v, ks) = false by rw [e0]; simp [hm]]
          exact (si_leaf_m a1 a2 a3 _ c1 _ c2 _ c3 p w rfl hz vw hB (by show 1024 < v.length; omega)).mono fun e w' he => by obtain ⟨v, h1, _, h2⟩ := he; exact ⟨v, h1, nofun, h2⟩
  by_cases k2 : kk = 2
  · subst k2
    have e0 : isS (2, p, v, ks) = (decide (0 < p.length) && (pb p && (decide (ks.length = 1) && decide ((ks.getD 0 []).length = 32)))) := rfl
    cases hB : pb p with
    | false =>
      rw [show isS (2, p, v, ks) = false by rw [e0, hB]; simp]
      exact (si_road_b a1 a2 a3 _ c1 _ c2 _ c3 p w rfl hz vw hB).mono fun e w' he => by obtain ⟨v, h1, _, h2⟩ := he; exact ⟨v, h1, nofun, h2⟩
    | true =>
      by_cases hn : p.length = 0
      · rw [show isS (2, p, v, ks) = false by rw [e0, hn]; simp]
        exact (si_road_0 a1 a2 a3 _ c1 _ c2 _ c3 p w rfl hz vw hB hn).mono fun e w' he => by obtain ⟨v, h1, _, h2⟩ := he; exact ⟨v, h1, nofun, h2⟩
      · have hn0 : 0 < p.length := by omega
        by_cases h3 : ks.length = 1
        · obtain ⟨ao, cap, e2, hL⟩ := h.2.2.2
          dsimp only at e2 hL
          obtain ⟨g, off, rfl, hg, hc⟩ := hL (by omega)
          obtain ⟨vi, q1, q2⟩ := hc 0 (by omega)
          obtain ⟨ai, ci, rfl⟩ := Sl_fm q2
          injection e2 with e3 _ _
          by_cases hm : (ks.getD 0 []).length = 32
          · rw [show isS (2, p, v, ks) = true by rw [e0, hB, decide_eq_true hn0, decide_eq_true h3, decide_eq_true hm]; rfl]
            rw [hm] at q1 q2
            exact si_road a1 a2 a3 _ c1 _ c2 _ c3 p w rfl hz vw (jl (tg p false)) hB pt1 pl1 (KN false) (ks.getD 0 []) g off ci ai e3 ⟨hg, q1⟩ (fun W hb => Sl_below q2 hb) hn0 h3
          · rw [show isS (2, p, v, ks) = false by rw [e0, decide_eq_false hm]; simp]
            exact (si_road_s a1 a2 a3 _ c1 _ c2 _ c3 p w rfl hz vw hB hn0 h3 _ hm (fun W hb => ⟨g, off, ai, ci, e3, (hb.cell (p := ⟨g, off, none⟩) hg).trans q1⟩)).mono fun e w' he => by obtain ⟨v, h1, _, h2⟩ := he; exact ⟨v, h1, nofun, h2⟩
        · rw [show isS (2, p, v, ks) = false by rw [e0]; simp [h3]]
          exact (si_road_k a1 a2 a3 _ c1 _ c2 _ c3 p w rfl hz vw hB hn0 h3).mono fun e w' he => by obtain ⟨v, h1, _, h2⟩ := he; exact ⟨v, h1, nofun, h2⟩
  by_cases k3 : kk = 3
  · subst k3
    have e0 : isS (3, p, v, ks) = (decide (ks.length = 16) && (decide (v.length ≤ 1024) && (ks.all sm && decide (2 ≤ np (ks ++ [v]))))) := rfl
    by_cases h3 : ks.length = 16
    · by_cases hm : v.length ≤ 1024
      · rw [show isS (3, p, v, ks) = (ks.all sm && decide (2 ≤ np (ks ++ [v]))) by rw [e0]; simp [h3, hm]]
        obtain ⟨hs, hh, hvl⟩ := ls_heads h.2.2.2
        exact si_fork a1 a2 a3 _ c1 _ c2 _ c3 p w rfl hz vw pt1 pl1 ks v hs hh hvl h.2.2.1 h3 hm
      · rw [show isS (3, p, v, ks) = false by rw [e0]; simp [hm]]
        exact (si_fork_v a1 a2 a3 _ c1 _ c2 _ c3 p w rfl hz vw h3 (by show 1024 < v.length; omega)).mono fun e w' he => by obtain ⟨v, h1, _, h2⟩ := he; exact ⟨v, h1, nofun, h2⟩
    · rw [show isS (3, p, v, ks) = false by rw [e0]; simp [h3]]
      exact (si_fork_k a1 a2 a3 _ c1 _ c2 _ c3 p w rfl hz vw h3).mono fun e w' he => by obtain ⟨v, h1, _, h2⟩ := he; exact ⟨v, h1, nofun, h2⟩
  · have e : isS (kk, p, v, ks) = false := by unfold isS; simp [k0, k1, k2, k3]
    rw [e]
    exact (si_other a1 a2 a3 _ c1 _ c2 _ c3 p w rfl hz vw kk k0 k1 k2 k3).mono fun e w' he => by obtain ⟨v, h1, _, h2⟩ := he; exact ⟨v, h1, nofun, h2⟩
theorem enc_t9 (t : List UInt8) (ks : List It) (h : t.length < 18446744073709551616) : (enc (.mk false t ks)).length ≤ t.length + 9 := by
  unfold enc
  split
  · omega
  · rw [List.length_append]
    have := hdr_9 128 t.length h
    omega
theorem encs_texts : ∀ l : List (List UInt8), (∀ t ∈ l, t.length ≤ 1024) → (encs (l.map fun b => .mk false b [])).length ≤ 1033 * l.length
  | [], _ => by simp [encs]
  | t :: r, h => by
    have h1 := enc_t9 t [] (by have := h t (List.mem_cons_self ..); omega)
    have h2 := encs_texts r (fun u hu => h u (List.mem_cons_of_mem _ hu))
    have h3 := h t (List.mem_cons_self ..)
    rw [List.map_cons, encs, List.length_append, List.length_cons]
    omega
theorem jn_ln : ∀ p : List UInt8, (jn p).length ≤ p.length / 2
  | [] => by simp [jn]
  | [_] => by simp [jn]
  | x :: y :: r => by
    have := jn_ln r
    rw [jn, List.length_cons]
    simp only [List.length_cons]
    omega
theorem jl_ln (p : List UInt8) : (jl p).length ≤ p.length / 2 := by
  unfold jl
  split
  · exact jn_ln p
  · simp
theorem enc_two (a b : List UInt8) (ha : a.length ≤ 600000) (hb : b.length ≤ 1024) : (enc (.mk true [] [.mk false a [], .mk false b []])).length ≤ 1048576 := by
  have h1 := enc_t9 a [] (by omega)
  have h2 := enc_t9 b [] (by omega)
  have e : encs [.mk false a [], .mk false b []] = enc (.mk false a []) ++ (enc (.mk false b []) ++ []) := by simp [encs]
  unfold enc
  rw [e, List.length_append]
  have h3 : (enc (.mk false a []) ++ (enc (.mk false b []) ++ [])).length ≤ 700000 := by simp only [List.length_append, List.length_nil]; omega
  have := hdr_9 192 (enc (.mk false a []) ++ (enc (.mk false b []) ++ [])).length (by omega)
  omega
/-- The form of a shape is no longer than this. -/
theorem encS_len (s : Shp) (h : isS s = true) (hp : s.2.1.length ≤ 1048576) : (enc (itS s)).length ≤ 1048576 := by
  obtain ⟨kk, p, v, ks⟩ := s
  dsimp only at hp
  have ht : ∀ leaf, (jl (tg p leaf)).length ≤ 600000 := fun leaf => by
    have h1 := jl_ln (tg p leaf)
    have h2 := tg_len p leaf
    omega
  unfold itS
  dsimp only
  by_cases k1 : kk = 1
  · subst k1
    rw [if_pos rfl]
    have e0 : isS (1, p, v, ks) = (pb p && (decide (0 < v.length) && decide (v.length ≤ 1024))) := rfl
    rw [e0] at h
    simp only [Bool.and_eq_true, decide_eq_true_iff] at h
    exact enc_two _ _ (ht true) h.2.2
  rw [if_neg k1]
  by_cases k2 : kk = 2
  · subst k2
    rw [if_pos rfl]
    have e0 : isS (2, p, v, ks) = (decide (0 < p.length) && (pb p && (decide (ks.length = 1) && decide ((ks.getD 0 []).length = 32)))) := rfl
    rw [e0] at h
    simp only [Bool.and_eq_true, decide_eq_true_iff] at h
    exact enc_two _ _ (ht false) (by omega)
  rw [if_neg k2]
  by_cases k3 : kk = 3
  · subst k3
    rw [if_pos rfl]
    have e0 : isS (3, p, v, ks) = (decide (ks.length = 16) && (decide (v.length ≤ 1024) && (ks.all sm && decide (2 ≤ np (ks ++ [v]))))) := rfl
    rw [e0] at h
    simp only [Bool.and_eq_true, decide_eq_true_iff, List.all_eq_true] at h
    have h1 := encs_texts (ks ++ [v]) (fun t ht => by
      rcases List.mem_append.1 ht with ht | ht
      · have := h.2.2.1 t ht
        unfold sm at this
        simp at this
        rcases this with this | this
        · rw [this]; simp
        · omega
      · rw [List.mem_singleton.1 ht]; exact h.2.1)
    rw [List.length_append, h.1, List.length_singleton] at h1
    unfold enc
    rw [List.length_append]
    have := hdr_9 192 (encs ((ks ++ [v]).map fun b => .mk false b [])).length (by omega)
    omega
  · rw [if_neg k3]
    have := enc_t9 [] [] (by simp)
    simp at this
    omega
end Rs
end Go.Proofs.Ytcgimjlmihaegaa
/- lampbearerref.HCode. -/
namespace Go.Proofs.Ytcgimjlmihaegaa
namespace Rs
open Nb Sp Pk Go.RowKit
/-- The form of a shape; no bytes, if there is none. -/
def hc (s : Shp) : List UInt8 := if isS s then enc (itS s) else []
def he (s : Shp) : Int := if isS s then 0 else 1
set_option maxHeartbeats 2000000 in
set_option maxRecDepth 100000 in
theorem hcode_walk (kk : Int) (a1 a2 a3 : Option Addr) (n1 c1 n2 c2 n3 c3 : Nat) (w : World) (R : Bool) (t : It) (ht : Hid (R = true → (enc t).length ≤ 1048576))
    (KS : Hid (∀ wx : World, Below w.heap.size w wx → Calls Try.prog 36 #[.agg #[.int .i64 kk, .slice a1 n1 c1, .slice a2 n2 c2, .slice a3 n3 c3]] wx fun e w' => ∃ v, e = .returned (.tuple #[v3 v, .bool R]) ∧ (R = true → Iv (fun _ => True) w' t v) ∧ Below wx.heap.size wx w' ∧ Fm v)) :
    Calls Try.prog 16 #[.agg #[.int .i64 kk, .slice a1 n1 c1, .slice a2 n2 c2, .slice a3 n3 c3]] w fun e w' => ∃ v, e = .returned (.tuple #[v, .int .i64 (if R then 0 else 1)]) ∧ Sl (if R then enc t else []) v w' ∧ Below w.heap.size w w' := by
  have HB : Hid (Below w.heap.size w (w.alloc (.cells #[.int .i64 kk, .slice a1 n1 c1, .slice a2 n2 c2, .slice a3 n3 c3] 25))) := (Below.refl _ _).alloc (Nat.le_refl _) _
  go_enter Try.func16, Try.ntmps16
  go_wp2_with fail
  refine (KS.out _ HB.out).mono ?_
  rintro e w1 ⟨v, rfl, hiv, hb, l, b1, m1, d1, b2, m2, d2, rfl⟩
  have HL1 : Hid (Below w.heap.size w w1) := HB.out.trans (hb.mono HB.out.size)
  cases R with
  | false =>
    have HL2 : Hid (Below w.heap.size w (w1.alloc (.cells #[.bool l, .slice b1 m1 d1, .slice b2 m2 d2] 42))) := HL1.out.alloc HL1.out.size _
    clear hiv hb KS HB HL1 ht
    dsimp only [v3]
    go_wp2_with fail
    go_ret2
    exact ⟨_, rfl, Sl_nil _, HL2.out⟩
  | true =>
    have bA : Below w1.heap.size w1 (w1.alloc (.cells #[.bool l, .slice b1 m1 d1, .slice b2 m2 d2] 42)) := (Below.refl _ _).alloc (Nat.le_refl _) _
    have HL2 : Hid (Below w.heap.size w (w1.alloc (.cells #[.bool l, .slice b1 m1 d1, .slice b2 m2 d2] 42))) := HL1.out.alloc HL1.out.size _
    have KE : Hid (Calls Try.prog 37 #[.agg #[.bool l, .slice b1 m1 d1, .slice b2 m2 d2]] (w1.alloc (.cells #[.bool l, .slice b1 m1 d1, .slice b2 m2 d2] 42)) fun e w' => ∃ v, e = .returned v ∧ Sl (enc t) v w' ∧ Below w.heap.size w w') :=
      (pencode_any (wf_any t) (ht.out rfl) (fun _ => True) (.bool l, .slice b1 m1 d1, .slice b2 m2 d2) _ (Iv_below (hiv rfl) bA)).mono fun e w' he => by
        obtain ⟨v, h1, h2, h3⟩ := he
        exact ⟨v, h1, h2, HL2.out.trans (h3.mono HL2.out.size)⟩
    clear hiv hb KS HB HL1 ht bA HL2
    dsimp only [v3]
    go_wp2_with fail
    refine KE.out.mono ?_
    rintro e w3 ⟨v, rfl, h2, h3⟩
    have HZ : Hid (Sl (enc t) v w3 ∧ Below w.heap.size w w3) := ⟨h2, h3⟩
    clear h2 h3 KE
    go_wp2_with fail
    go_ret2
    exact ⟨_, rfl, HZ.out.1, HZ.out.2⟩
theorem hcode_any (s : Shp) (x : V4) (w : World) (h : Sh s x w) (hp : s.2.1.length ≤ 4194300) (hE : isS s = true → (enc (itS s)).length ≤ 1048576) :
    Calls Try.prog 16 #[v4 x] w fun e w' => ∃ v, e = .returned (.tuple #[v, .int .i64 (he s)]) ∧ Sl (hc s) v w' ∧ Below w.heap.size w w' := by
  obtain ⟨a1, c1, a2, c2, a3, c3, e⟩ := Sh_form h
  have KS := fun (wx : World) (hb : Below w.heap.size w wx) => shapeitem_any s x wx (Sh_below h hb) hp
  subst e
  exact hcode_walk s.1 a1 a2 a3 _ c1 _ c2 _ c3 w (isS s) (itS s) hE (fun wx hb => (KS wx hb).mono fun e w' hh => by
    obtain ⟨v, h1, h2, h3⟩ := hh
    exact ⟨v, h1, h2, h3⟩)
end Rs
end Go.Proofs.Ytcgimjlmihaegaa
/- root.textsOf. -/
namespace Go.Proofs.Ytcgimjlmihaegaa
namespace Rs
open Nb Sp Pk Go.RowKit
/-- The kids of an item in memory. -/
structure KV (ks : List It) (a : Option Addr) (n : Nat) (w : World) (hs : List Value) : Prop where
  e : n = ks.length
  h : Hds (ks.map txt) hs w
  c : 0 < n → ∃ g off, a = some ⟨g, off, none⟩ ∧ g < w.heap.size ∧ ∀ j, j < n → ∃ x1 y1 x2 m2 y2, hs.getD j undef = .slice x1 (txt (ks.getD j It.no)).length y1 ∧ w.cell? ⟨g, off + j * 3, none⟩ = some (.bool (isL (ks.getD j It.no))) ∧ w.cell? ⟨g, off + j * 3 + 1, none⟩ = some (.slice x1 (txt (ks.getD j It.no)).length y1) ∧ w.cell? ⟨g, off + j * 3 + 2, none⟩ = some (.slice x2 m2 y2)
theorem iv_top {S : Nat → Prop} {w : World} {t : It} {v : V3} (h : Iv S w t v) : v.1 = .bool (isL t) ∧ Ty S (txt t) v.2.1 w := by
  cases h with
  | mk l b ks tv kv vs ht hl hk hi => exact ⟨rfl, ht⟩
theorem iv_kids {S : Nat → Prop} {w : World} {t : It} {v : V3} (h : Iv S w t v) : ∃ a1 c1 a n c hs, v = (.bool (isL t), .slice a1 (txt t).length c1, .slice a n c) ∧ KV (kds t) a n w hs := by
  cases h with
  | mk l b ks tv kv vs ht hl hk hi =>
    obtain ⟨a1, c1, rfl, _⟩ := ht
    obtain ⟨a, c, rfl, _, hq⟩ := hk
    have hf : ∀ j, j < ks.length → ∃ x1 y1 x2 m2 y2, vs.getD j n3 = (.bool (isL (ks.getD j It.no)), .slice x1 (txt (ks.getD j It.no)).length y1, .slice x2 m2 y2) ∧ Sl (txt (ks.getD j It.no)) (.slice x1 (txt (ks.getD j It.no)).length y1) w := fun j hj => by
      have iv := hi j hj
      obtain ⟨l', b1, m1, q1, b2, m2, q2, ev⟩ := Iv_form iv
      obtain ⟨e1, e2⟩ := iv_top iv
      have e3 := Ty_sl e2
      rw [ev] at e1 e3
      obtain ⟨x1, y1, e4⟩ := Sl_fm e3
      dsimp only at e1 e4 e3
      rw [e4] at e3
      exact ⟨x1, y1, b2, m2, q2, by rw [ev, e1, e4], e3⟩
    have eh : ∀ j, j < ks.length → (vs.map fun x => x.2.1).getD j undef = (vs.getD j n3).2.1 := fun j hj => by
      simp [List.getD_eq_getElem?_getD, List.getElem?_map, List.getElem?_eq_getElem (hl ▸ hj)]
    have et : ∀ j, j < ks.length → (ks.map txt).getD j [] = txt (ks.getD j It.no) := fun j hj => by
      simp [List.getD_eq_getElem?_getD, List.getElem?_map, List.getElem?_eq_getElem hj]
    have ek : kds (.mk l b ks) = ks := rfl
    rw [ek]
    refine ⟨a1, c1, a, vs.length, c, vs.map fun x => x.2.1, rfl, hl, ⟨by rw [List.length_map, List.length_map, hl], fun j hj => ?_⟩, fun h0 => ?_⟩
    · rw [List.length_map] at hj
      obtain ⟨x1, y1, x2, m2, y2, e1, e2⟩ := hf j hj
      rw [et j hj, eh j hj, e1]
      exact e2
    · obtain ⟨g, off, rfl, _, hg, hc⟩ := hq h0
      refine ⟨g, off, rfl, hg, fun j hj => ?_⟩
      obtain ⟨x1, y1, x2, m2, y2, e1, e2⟩ := hf j (by show j < ks.length; omega)
      obtain ⟨k0, k1, k2⟩ := hc j hj
      rw [e1] at k0 k1 k2
      rw [Nat.mul_comm 3 j] at k0 k1 k2
      exact ⟨x1, y1, x2, m2, y2, by rw [eh j (by show j < ks.length; omega), e1], k0, k1, k2⟩
theorem own_cap {B e z n m c : Nat} {a : Option Addr} {xs : List Value} {w : World} (h : w.ownsRow B e z (.slice a m c) n xs) : m ≤ c := by
  rcases h.2 with ⟨h3, _⟩ | ⟨g, cap, cur, h3, _, _, h6, _⟩
  · injection h3 with _ h4 h5; omega
  · injection h3 with _ h4 h5; omega
theorem rf_own {B n : Nat} {v : Value} {xs : List Value} {w : World} {e z : Nat} (h : w.ownsRow B e z v n xs) : Rf B v := fun a ha => (h.lt a ha).1
set_option maxHeartbeats 2000000 in
set_option maxRecDepth 100000 in
theorem textsof_walk (ks : List It) (B0 : Bool) (a1 a : Option Addr) (n1 c1 n c : Nat) (hs : List Value) (w : World) (hz : Hid (n ≤ 1048576)) (hk : Hid (KV ks a n w hs)) (R : Bool) (hR : Hid (R = ks.all fun k => !isL k)) :
    Calls Try.prog 27 #[.agg #[.bool B0, .slice a1 n1 c1, .slice a n c]] w fun e w' => ∃ x m y, e = .returned (.tuple #[.slice x m y, .bool R]) ∧ (R = true → Ls (ks.map txt) (.slice x m y) w' ∧ Rf w.heap.size (.slice x m y) ∧ m ≤ y) ∧ Below w.heap.size w w' := by
  have l0 : Below w.heap.size w (w.alloc (.cells #[.bool B0, .slice a1 n1 c1, .slice a n c] 42)) := (Below.refl _ _).alloc (Nat.le_refl _) _
  have HN : Hid (n = ks.length) := hk.out.e
  have HL : Hid (hs.length = n) := by show _ = _; rw [hk.out.h.l, List.length_map]; exact HN.out.symm
  go_enter Try.func27, Try.ntmps27
  go_wp2_with fail
  generalize w.alloc (.cells #[.bool B0, .slice a1 n1 c1, .slice a n c] 42) = W0 at *
  obtain ⟨b, eb⟩ : ∃ b, b = w.heap.size := ⟨_, rfl⟩
  have EB : Hid (b = w.heap.size) := eb
  have L0 : Hid (Below w.heap.size w W0) := l0
  rw [← eb]
  clear eb l0
  go_loopw [4, 10] (fun v i wr => ∃ k : Nat, k ≤ n ∧ i = .int .i64 (k : Int) ∧ Hid ((∀ j, j < k → isL (ks.getD j It.no) = false) ∧ wr.ownsRow w.heap.size 22 1 v (hs.take k).length (hs.take k) ∧ Below w.heap.size w wr)) (fun _ i _ => ((n : Int) - intOf i).toNat)
  case atStart => exact ⟨0, Nat.zero_le _, rfl, fun j hj => absurd hj (by omega), World.ownsRow_nil _ _ _ _, L0.out⟩
  case round =>
    obtain ⟨k, hk1, rfl, HI⟩ := hrel
    obtain ⟨ak, nk, ck, rfl⟩ := own_form HI.out.2.1
    by_cases h1 : k < n
    · have d0 : (k : Int) < (n : Int) := by omega
      have d1 : (0 : Int) ≤ (k : Int) := by omega
      have hw := Nb.stp k (by have := hz.out; show _ ≤ _; omega)
      obtain ⟨g, off, rfl, hg, hc⟩ := hk.out.c (by omega)
      obtain ⟨x1, y1, x2, m2, y2, e1, k0, k1, k2⟩ := hc k h1
      have r0 := (HI.out.2.2.cell (p := ⟨g, off + k * 3, none⟩) hg).trans k0
      have r1 := (HI.out.2.2.cell (p := ⟨g, off + k * 3 + 1, none⟩) hg).trans k1
      have r2 := (HI.out.2.2.cell (p := ⟨g, off + k * 3 + 2, none⟩) hg).trans k2
      have HK1 : Hid (k < n) := h1
      have hkh : k < hs.length := by have := HL.out; omega
      have HTK : Hid (hs.take (k + 1) = hs.take k ++ [.slice x1 (txt (ks.getD k It.no)).length y1]) := by
        show _ = _
        rw [List.take_add_one, List.getElem?_eq_getElem hkh]
        have : hs[k] = .slice x1 (txt (ks.getD k It.no)).length y1 := by rw [← e1, List.getD_eq_getElem?_getD, List.getElem?_eq_getElem hkh]; rfl
        rw [this]
        rfl
      clear hg hc k0 k1 k2 e1 hkh
      generalize (txt (ks.getD k It.no)).length = mk at *
      cases hl : isL (ks.getD k It.no) with
      | true =>
        rw [hl] at r0
        have HRF : Hid (R = false) := by
          show _ = _
          rw [hR.out, List.all_eq_false]
          have hkl : k < ks.length := by have := HN.out; omega
          refine ⟨ks[k], List.getElem_mem _, ?_⟩
          have : ks.getD k It.no = ks[k] := by rw [List.getD_eq_getElem?_getD, List.getElem?_eq_getElem hkl]; rfl
          rw [← this, hl]
          decide
        have LA : Hid (Below w.heap.size w (wr.alloc (.cells #[.bool true, .slice x1 mk y1, .slice x2 m2 y2] 42))) := HI.out.2.2.alloc HI.out.2.2.size _
        clear HI hl HTK
        go_wp2_with fail
        go_ret2
        exact ⟨_, _, _, by rw [HRF.out]; rfl, by rw [HRF.out]; nofun, LA.out⟩
      | false =>
        rw [hl] at r0
        have HF : Hid (∀ j, j < k + 1 → isL (ks.getD j It.no) = false) := fun j hj => by
          by_cases e2 : j = k
          · subst e2; exact hl
          · exact HI.out.1 j (by omega)
        have bA : Below wr.heap.size wr (wr.alloc (.cells #[.bool false, .slice x1 mk y1, .slice x2 m2 y2] 42)) := (Below.refl _ _).alloc (Nat.le_refl _) _
        have hs1 : (wr.alloc (.cells #[.bool false, .slice x1 mk y1, .slice x2 m2 y2] 42)).heap.size = wr.heap.size + 1 := by simp
        have bB : Below wr.heap.size wr ((wr.alloc (.cells #[.bool false, .slice x1 mk y1, .slice x2 m2 y2] 42)).alloc (.cells #[.slice x1 mk y1] 22)) := bA.alloc (by omega) _
        have hnw := heap_alloc_new (wr.alloc (.cells #[.bool false, .slice x1 mk y1, .slice x2 m2 y2] 42)) (.cells #[.slice x1 mk y1] 22)
        rw [hs1] at hnw
        have oB : ((wr.alloc (.cells #[.bool false, .slice x1 mk y1, .slice x2 m2 y2] 42)).alloc (.cells #[.slice x1 mk y1] 22)).ownsRow w.heap.size 22 1 (.slice ak nk ck) (hs.take k).length (hs.take k) := (HI.out.2.1.alloc _).alloc _
        have vB : Vl [.slice x1 mk y1] (.slice (some ⟨wr.heap.size + 1, 0, none⟩) 1 1) ((wr.alloc (.cells #[.bool false, .slice x1 mk y1, .slice x2 m2 y2] 42)).alloc (.cells #[.slice x1 mk y1] 22)) := ⟨_, 1, rfl, fun _ => ⟨_, 0, rfl, by simp, fun j hj => by
          have : j = 0 := by simp at hj; omega
          subst this
          simp only [World.cell?, hnw]
          rfl⟩⟩
        have hbw := HI.out.2.2.size
        obtain ⟨v', w', hap, ho', hb'⟩ := appv_r (ys := [.slice x1 mk y1]) 23 oB vB (fun u hu => by rw [List.mem_singleton.1 hu]; rfl) (by have := bB.size; omega) (by rw [List.length_take]; have := hz.out; simp; omega)
        rw [← HTK.out] at ho'
        obtain ⟨ak2, nk2, ck2, rfl⟩ := own_form ho'
        have HI7 : Hid ((∀ j, j < k + 1 → isL (ks.getD j It.no) = false) ∧ w'.ownsRow w.heap.size 22 1 (.slice ak2 nk2 ck2) (hs.take (k + 1)).length (hs.take (k + 1)) ∧ Below w.heap.size w w') := ⟨HF.out, ho', (HI.out.2.2.trans (bB.mono hbw)).trans hb'⟩
        clear HI hl HTK HF bA bB hs1 hnw oB vB hbw ho' hb'
        go_wp2_with (at_builtin; refine wpList_apw rfl rfl rfl rfl hap ?_)
        have hw := hw.out
        go_roundw
        case rel => exact ⟨k + 1, HK1.out, Nb.step_v k _ hw, HI7⟩
        case measure => exact Nb.msr k n HK1.out _ hw
    · have hkl : k = n := by omega
      subst hkl
      have ex : Hid (hs.take k = hs) := by show _ = _; rw [← HL.out, List.take_length]
      have HT : Hid (R = true) := by
        show _ = _
        rw [hR.out, List.all_eq_true]
        intro x hx
        obtain ⟨j, hj, rfl⟩ := List.mem_iff_getElem.1 hx
        have := HI.out.1 j (by have := HN.out; omega)
        rw [List.getD_eq_getElem?_getD, List.getElem?_eq_getElem hj] at this
        simpa using this
      have ho := HI.out.2.1
      rw [ex.out] at ho
      have HZ : Hid (Ls (ks.map txt) (.slice ak nk ck) wr ∧ (Rf w.heap.size (.slice ak nk ck) ∧ nk ≤ ck) ∧ Below w.heap.size w wr) := ⟨own_ls ho (Hds_below hk.out.h HI.out.2.2), ⟨rf_own ho, own_cap ho⟩, HI.out.2.2⟩
      clear HI ho ex
      go_wp2_with fail
      go_ret2
      exact ⟨_, _, _, by rw [HT.out]; rfl, fun _ => ⟨HZ.out.1, HZ.out.2.1⟩, HZ.out.2.2⟩
end Rs
end Go.Proofs.Ytcgimjlmihaegaa
/- root.shapeOf. -/
namespace Go.Proofs.Ytcgimjlmihaegaa
namespace Rs
open Nb Sp Pk Go.RowKit RI RH
theorem upv_stS {K : Value → World → Prop} {a : Act} {o : Oper} {x y : Operand} {G : Nat} {k : Int} {a1 a2 a3 : Option Addr} {n1 c1 n2 c2 n3 c3 : Nat} {w : World} (ho : o.op = .store 25 x y) (hx : a.eval x = .pointer (some ⟨G, 0, none⟩)) (hy : a.eval y = .agg #[.int .i64 k, .slice a1 n1 c1, .slice a2 n2 c2, .slice a3 n3 c3]) (hB : BS G w)
    (h : ∀ w', w.grownBy w' (some G) → w'.cell? ⟨G, 0, none⟩ = some (.int .i64 k) → w'.cell? ⟨G, 1, none⟩ = some (.slice a1 n1 c1) → w'.cell? ⟨G, 2, none⟩ = some (.slice a2 n2 c2) → w'.cell? ⟨G, 3, none⟩ = some (.slice a3 n3 c3) → K undef w') : RS.upv Try.prog K ((execOp a.eval o).run Try.prog w) := by
  have ht : w.there G 0 4 := fun j hj => by rw [Nat.zero_add]; exact ⟨hB.c j hj, hB.f j⟩
  have hs := World.rangeAt_setCells_same w G 0 [.int .i64 k, .slice a1 n1 c1, .slice a2 n2 c2, .slice a3 n3 c3] ht
  unfold execOp
  simp only [ho, hx, hy, Instr.storeAt, Instr.sureAddr, Sem.run_bind, Sem.run_pure, Result.andThen_ok, run_storeVar_mid w G 0 25 #[.int .i64 k, .slice a1 n1 c1, .slice a2 n2 c2, .slice a3 n3 c3] ht infoSh (all_oneCell_toArray (cs := [.int .i64 k, .slice a1 n1 c1, .slice a2 n2 c2, .slice a3 n3 c3]) (fun v hv => by simp only [List.mem_cons, List.not_mem_nil, or_false] at hv; rcases hv with rfl | rfl | rfl | rfl <;> rfl))]
  exact h _ (Pk.gb_sets G _ 0 w) (hs 0 _ rfl) (hs 1 _ rfl) (hs 2 _ rfl) (hs 3 _ rfl)
/-- A region in which a shape of nothing is laid, whenever. -/
structure S2 (W0 : World) (G : Nat) (d : Nat → Bool) (U : Nat → Value) (wx : World) : Prop where
  b : W0.grownBy wx (some G)
  x : d 5 = false → BS G wx
  z : d 5 = true → wx.cell? ⟨G, 0, none⟩ = some (.int .i64 0) ∧ wx.cell? ⟨G, 1, none⟩ = some (.slice none 0 0) ∧ wx.cell? ⟨G, 2, none⟩ = some (.slice none 0 0) ∧ wx.cell? ⟨G, 3, none⟩ = some (.slice none 0 0)
theorem S2.keep {W0 : World} {G i : Nat} {d : Nat → Bool} {U : Nat → Value} {wx : World} (hi : i ≠ 5) (h : S2 W0 G d U wx) : S2 W0 G (don d i) U wx := by
  have e : don d i 5 = d 5 := don_other _ _ _ (fun e => hi e.symm)
  exact ⟨h.b, by rw [e]; exact h.x, by rw [e]; exact h.z⟩
/-- A call that answers a shape, its parts taken. -/
structure T5 (w1 : World) (B : Bool) (G : V4 → World → Prop) (d : Nat → Bool) (U : Nat → Value) (wx : World) : Prop where
  b : Below w1.heap.size w1 wx
  p : d 6 = true → ∃ v, U 6 = .tuple #[v4 v, .bool B] ∧ G v wx ∧ (d 7 = true → U 7 = v4 v) ∧ (d 8 = true → U 8 = .bool B)
  q7 : d 7 = true → d 6 = true
  q8 : d 8 = true → d 6 = true
theorem T5.keep {w1 : World} {B : Bool} {G : V4 → World → Prop} {i : Nat} {d : Nat → Bool} {U : Nat → Value} {wx : World} (hi : i ≠ 6 ∧ i ≠ 7 ∧ i ≠ 8) (h : T5 w1 B G d U wx) : T5 w1 B G (don d i) U wx := by
  have e6 : don d i 6 = d 6 := don_other _ _ _ (fun e => hi.1 e.symm)
  have e7 : don d i 7 = d 7 := don_other _ _ _ (fun e => hi.2.1 e.symm)
  have e8 : don d i 8 = d 8 := don_other _ _ _ (fun e => hi.2.2 e.symm)
  exact ⟨h.b, by rw [e6, e7, e8]; exact h.p, by rw [e7, e6]; exact h.q7, by rw [e8, e6]; exact h.q8⟩
theorem uV_o (U : Nat → Value) {i j : Nat} (x : Value) (h : j ≠ i) : updU U i x j = U j := by unfold updU; rw [if_neg h]
theorem uV_s (U : Nat → Value) (i : Nat) (x : Value) : updU U i x i = x := by simp [updU]
theorem T5.call {w1 w' : World} {B : Bool} {G : V4 → World → Prop} {d : Nat → Bool} {U : Nat → Value} {wx : World} (h : T5 w1 B G d U wx) (h6 : d 6 = false) (v : V4) (hb : Below wx.heap.size wx w') (hG : G v w') : T5 w1 B G (don d 6) (updU U 6 (.tuple #[v4 v, .bool B])) w' := by
  have e7 : don d 6 7 = false := by
    rw [don_other _ _ _ (by decide)]
    cases e : d 7
    · rfl
    · have := h.q7 e; rw [h6] at this; cases this
  have e8 : don d 6 8 = false := by
    rw [don_other _ _ _ (by decide)]
    cases e : d 8
    · rfl
    · have := h.q8 e; rw [h6] at this; cases this
  exact ⟨h.b.trans (hb.mono h.b.size), fun _ => ⟨v, uV_s _ _ _, hG, (fun k => by rw [e7] at k; cases k), (fun k => by rw [e8] at k; cases k)⟩, fun _ => don_same _ _, fun _ => don_same _ _⟩
theorem T5.t7 {w1 : World} {B : Bool} {G : V4 → World → Prop} {d : Nat → Bool} {U : Nat → Value} {wx : World} (h : T5 w1 B G d U wx) (h6 : d 6 = true) (v : V4) (hv : U 6 = .tuple #[v4 v, .bool B]) : T5 w1 B G (don d 7) (updU U 7 (v4 v)) wx := by
  have e6 : don d 7 6 = d 6 := don_other _ _ _ (by decide)
  have e8 : don d 7 8 = d 8 := don_other _ _ _ (by decide)
  obtain ⟨v', k1, k2, k3, k4⟩ := h.p h6
  have ev : v4 v' = v4 v := by rw [hv] at k1; injection k1 with k1; injection k1 with k1; injection k1 with k1 _; exact k1.symm
  refine ⟨h.b, fun _ => ⟨v', by rw [uV_o _ _ (by decide)]; exact k1, k2, fun _ => by rw [uV_s, ev], ?_⟩, fun _ => by rw [e6]; exact h6, by rw [e8, e6]; exact h.q8⟩
  rw [e8, uV_o _ _ (by decide)]; exact k4
theorem T5.t8 {w1 : World} {B : Bool} {G : V4 → World → Prop} {d : Nat → Bool} {U : Nat → Value} {wx : World} (h : T5 w1 B G d U wx) (h6 : d 6 = true) : T5 w1 B G (don d 8) (updU U 8 (.bool B)) wx := by
  have e6 : don d 8 6 = d 6 := don_other _ _ _ (by decide)
  have e7 : don d 8 7 = d 7 := don_other _ _ _ (by decide)
  obtain ⟨v', k1, k2, k3, k4⟩ := h.p h6
  refine ⟨h.b, fun _ => ⟨v', by rw [uV_o _ _ (by decide)]; exact k1, k2, ?_, fun _ => uV_s _ _ _⟩, by rw [e7, e6]; exact h.q7, fun _ => by rw [e6]; exact h6⟩
  rw [e7, uV_o _ _ (by decide)]; exact k3
set_option maxHeartbeats 4000000 in
set_option maxRecDepth 100000 in
theorem so_text (a1 a : Option Addr) (n1 c1 n c : Nat) (w : World) (o : Option Shp) (ho : Hid (o = if n1 = 0 then some zS else none)) :
    Calls Try.prog 12 #[.agg #[.bool false, .slice a1 n1 c1, .slice a n c]] w (PS w o) := by
  have l0 : Below w.heap.size w ((w.alloc (.cells #[.bool false, .slice a1 n1 c1, .slice a n c] 42)).alloc (.cells #[.int .i64 0, .slice none 0 0, .slice none 0 0, .slice none 0 0] 25)) := ((Below.refl _ _).alloc (Nat.le_refl _) _).alloc (by simp) _
  have hs1 : (w.alloc (.cells #[.bool false, .slice a1 n1 c1, .slice a n c] 42)).heap.size = w.heap.size + 1 := by simp
  have x0 : BS (w.heap.size + 1) ((w.alloc (.cells #[.bool false, .slice a1 n1 c1, .slice a n c] 42)).alloc (.cells #[.int .i64 0, .slice none 0 0, .slice none 0 0, .slice none 0 0] 25)) := hs1 ▸ BS_new (w.alloc (.cells #[.bool false, .slice a1 n1 c1, .slice a n c] 42))
  have HA := heap_alloc_new w (.cells #[.bool false, .slice a1 n1 c1, .slice a n c] 42)
  have bB : Below (w.heap.size + 1) (w.alloc (.cells #[.bool false, .slice a1 n1 c1, .slice a n c] 42)) ((w.alloc (.cells #[.bool false, .slice a1 n1 c1, .slice a n c] 42)).alloc (.cells #[.int .i64 0, .slice none 0 0, .slice none 0 0, .slice none 0 0] 25)) := (Below.refl _ _).alloc (by omega) _
  have q0 : ((w.alloc (.cells #[.bool false, .slice a1 n1 c1, .slice a n c] 42)).alloc (.cells #[.int .i64 0, .slice none 0 0, .slice none 0 0, .slice none 0 0] 25)).cell? ⟨w.heap.size, 0, none⟩ = some (.bool false) := (bB.cell (p := ⟨w.heap.size, 0, none⟩) (by show w.heap.size < _; omega)).trans (by simp only [World.cell?, HA]; rfl)
  have q1 : ((w.alloc (.cells #[.bool false, .slice a1 n1 c1, .slice a n c] 42)).alloc (.cells #[.int .i64 0, .slice none 0 0, .slice none 0 0, .slice none 0 0] 25)).cell? ⟨w.heap.size, 1, none⟩ = some (.slice a1 n1 c1) := (bB.cell (p := ⟨w.heap.size, 1, none⟩) (by show w.heap.size < _; omega)).trans (by simp only [World.cell?, HA]; rfl)
  have q2 : ((w.alloc (.cells #[.bool false, .slice a1 n1 c1, .slice a n c] 42)).alloc (.cells #[.int .i64 0, .slice none 0 0, .slice none 0 0, .slice none 0 0] 25)).cell? ⟨w.heap.size, 2, none⟩ = some (.slice a n c) := (bB.cell (p := ⟨w.heap.size, 2, none⟩) (by show w.heap.size < _; omega)).trans (by simp only [World.cell?, HA]; rfl)
  have hsz : ((w.alloc (.cells #[.bool false, .slice a1 n1 c1, .slice a n c] 42)).alloc (.cells #[.int .i64 0, .slice none 0 0, .slice none 0 0, .slice none 0 0] 25)).heap.size = w.heap.size + 2 := by simp
  clear HA bB hs1
  go_enter Try.func12, Try.ntmps12
  go_upto_region 1 with fail
  generalize ((w.alloc (.cells #[.bool false, .slice a1 n1 c1, .slice a n c] 42)).alloc (.cells #[.int .i64 0, .slice none 0 0, .slice none 0 0, .slice none 0 0] 25)) = W0 at *
  obtain ⟨h, eh⟩ : ∃ h, h = w.heap.size := ⟨_, rfl⟩
  have EH : Hid (h = w.heap.size) := eh
  have L0 : Hid (Below w.heap.size w W0) := l0
  have X0 : Hid (BS (h + 1) W0) := eh ▸ x0
  have HSZ : Hid (W0.heap.size = h + 2) := by show _ = _; rw [eh]; exact hsz
  rw [← eh] at q0 q1 q2 ⊢
  clear eh l0 x0 hsz
  have Q1 : Hid (W0.cell? ⟨h, 1, none⟩ = some (.slice a1 n1 c1)) := q1
  obtain ⟨D, hD⟩ : ∃ D, D = decide (n1 = 0) := ⟨_, rfl⟩
  have HD : Hid (D = decide (n1 = 0)) := hD
  have hD2 : ((n1 : Int) == 0) = D := by
    rw [hD, Bool.eq_iff_iff]
    simp
  clear hD
  go_upto_region 2 with fail
  refine RH.wp_region_genI (S2 W0 (h + 1)) [0, 0, 0, 0, 0, 0, 0] (by kernel_rfl) (by kernel_rfl) (⟨⟨rfl, rfl, rfl, Nat.le_refl _, fun _ _ _ => rfl⟩, fun _ => ⟨X0.out.hi, X0.out.c, X0.out.f, X0.out.n⟩, nofun⟩) ?_
  dsimp only [List.toList_toArray]
  refine RH.goD (v := ?_) (f' := ?_) rfl ?_ ?_ ?_
  rotate_left 2
  · intro U K d wx hI hmay hK
    go_simp
    exact hK _ (S2.keep (by decide) hI)
  · intro U
    simp only [Act.put, List.setIfInBounds_toArray, List.set_cons_succ, List.set_cons_zero]
    rfl
  refine RH.goD (v := ?_) (f' := ?_) rfl ?_ ?_ ?_
  rotate_left 2
  · intro U K d wx hI hmay hK
    go_simp
    exact hK _ (S2.keep (by decide) hI)
  · intro U
    simp only [Act.put, List.setIfInBounds_toArray, List.set_cons_succ, List.set_cons_zero]
    rfl
  refine RH.goD (v := ?_) (f' := ?_) rfl ?_ ?_ ?_
  rotate_left 2
  · intro U K d wx hI hmay hK
    have y0 := (World.cell?_of_block (a := ⟨h, 1, none⟩) (hI.b.block h (by have := HSZ.out; omega) (fun e => by injection e with e; omega))).trans Q1.out
    go_simp
    exact hK _ (S2.keep (by decide) hI)
  · intro U
    simp only [Act.put, List.setIfInBounds_toArray, List.set_cons_succ, List.set_cons_zero]
    rfl
  refine RH.goD (v := ?_) (f' := ?_) rfl ?_ ?_ ?_
  rotate_left 2
  · intro U K d wx hI hmay hK
    go_simp
    exact hK _ (S2.keep (by decide) hI)
  · intro U
    simp only [Act.put, List.setIfInBounds_toArray, List.set_cons_succ, List.set_cons_zero]
    rfl
  refine RH.goD (v := ?_) (f' := ?_) rfl ?_ ?_ ?_
  rotate_left 2
  · intro U K d wx hI hmay hK
    go_simp
    exact hK _ (S2.keep (by decide) hI)
  · intro U
    simp only [Act.put, List.setIfInBounds_toArray, List.set_cons_succ, List.set_cons_zero]
    rfl
  refine RH.goD (v := ?_) (f' := ?_) rfl ?_ ?_ ?_
  rotate_left 2
  · intro U K d wx hI hmay hK
    have h5 : d 5 = false := hmay.1
    refine upv_stS rfl rfl rfl (hI.x h5) (fun w' g z0 z1 z2 z3 => ?_)
    exact hK _ ⟨Pk.gb_trans hI.b g, (fun k => by rw [don_same] at k; cases k), fun _ => ⟨z0, z1, z2, z3⟩⟩
  · intro U
    simp only [Act.put]
    rfl
  refine RH.goD (v := ?_) (f' := ?_) rfl ?_ ?_ ?_
  rotate_left 2
  · intro U K d wx hI hmay hK
    go_simp
    exact hK _ (S2.keep (by decide) hI)
  · intro U
    simp only [Act.put, List.setIfInBounds_toArray, List.set_cons_succ, List.set_cons_zero]
    rfl
  refine RH.go_end ?_
  intro d U w9 hI hall
  simp +decide only [RH.tl, if_false]
  have h5 := hI.z (by rw [hall 5 (by decide)]; rfl)
  obtain ⟨z0, z1, z2, z3⟩ := h5
  have g6 := hI.b
  have l1 := L0.out
  have l6 : Hid (Below w.heap.size w w9) := l1.trans ⟨g6.os, g6.tape, g6.output, g6.size, fun j hj => g6.block j (by have := l1.size; omega) (fun e => by injection e with e; have := EH.out; omega)⟩
  clear hI hall g6 l1
  go_wp2_with fail
  refine bodyPost_ret (v := .tuple #[.agg #[.int .i64 0, .slice none 0 0, .slice none 0 0, .slice none 0 0], .bool D]) (resS2 _ _ _ (h + 1) 2 3 _ _ _ _ _ rfl rfl rfl z0 z1 z2 z3) rfl ⟨(.int .i64 0, .slice none 0 0, .slice none 0 0, .slice none 0 0), by rw [ho.out, HD.out]; by_cases e : n1 = 0 <;> simp [e, v4], fun s hs => ?_, l6.out, ⟨_, _, _, _, _, _, _, _, _, _, rfl⟩⟩
  have hs2 := ho.out
  rw [hs] at hs2
  by_cases e : n1 = 0
  · rw [if_pos e] at hs2
    cases hs2
    exact ⟨⟨rfl, Sl_nil _, Sl_nil _, Ls_nil' _⟩, nofun⟩
  · rw [if_neg e] at hs2
    cases hs2
set_option maxHeartbeats 4000000 in
set_option maxRecDepth 100000 in
theorem so_lists (a1 a : Option Addr) (n1 c1 n c : Nat) (w : World) (R : Bool) (l : List (List UInt8)) (KT : Hid (∀ wx : World, Below w.heap.size w wx → Calls Try.prog 27 #[.agg #[.bool true, .slice a1 n1 c1, .slice a n c]] wx fun e w' => ∃ x m y, e = .returned (.tuple #[.slice x m y, .bool R]) ∧ (R = true → Ls l (.slice x m y) w' ∧ Rf wx.heap.size (.slice x m y) ∧ m ≤ y) ∧ Below wx.heap.size wx w')) (hR : Hid (R = false)) :
    Calls Try.prog 12 #[.agg #[.bool true, .slice a1 n1 c1, .slice a n c]] w (PS w none) := by
  have l0 : Below w.heap.size w ((w.alloc (.cells #[.bool true, .slice a1 n1 c1, .slice a n c] 42)).alloc (.cells #[.int .i64 0, .slice none 0 0, .slice none 0 0, .slice none 0 0] 25)) := ((Below.refl _ _).alloc (Nat.le_refl _) _).alloc (by simp) _
  have hs1 : (w.alloc (.cells #[.bool true, .slice a1 n1 c1, .slice a n c] 42)).heap.size = w.heap.size + 1 := by simp
  have x0 : BS (w.heap.size + 1) ((w.alloc (.cells #[.bool true, .slice a1 n1 c1, .slice a n c] 42)).alloc (.cells #[.int .i64 0, .slice none 0 0, .slice none 0 0, .slice none 0 0] 25)) := hs1 ▸ BS_new (w.alloc (.cells #[.bool true, .slice a1 n1 c1, .slice a n c] 42))
  have HA := heap_alloc_new w (.cells #[.bool true, .slice a1 n1 c1, .slice a n c] 42)
  have bB : Below (w.heap.size + 1) (w.alloc (.cells #[.bool true, .slice a1 n1 c1, .slice a n c] 42)) ((w.alloc (.cells #[.bool true, .slice a1 n1 c1, .slice a n c] 42)).alloc (.cells #[.int .i64 0, .slice none 0 0, .slice none 0 0, .slice none 0 0] 25)) := (Below.refl _ _).alloc (by omega) _
  have q0 : ((w.alloc (.cells #[.bool true, .slice a1 n1 c1, .slice a n c] 42)).alloc (.cells #[.int .i64 0, .slice none 0 0, .slice none 0 0, .slice none 0 0] 25)).cell? ⟨w.heap.size, 0, none⟩ = some (.bool true) := (bB.cell (p := ⟨w.heap.size, 0, none⟩) (by show w.heap.size < _; omega)).trans (by simp only [World.cell?, HA]; rfl)
  have q1 : ((w.alloc (.cells #[.bool true, .slice a1 n1 c1, .slice a n c] 42)).alloc (.cells #[.int .i64 0, .slice none 0 0, .slice none 0 0, .slice none 0 0] 25)).cell? ⟨w.heap.size, 1, none⟩ = some (.slice a1 n1 c1) := (bB.cell (p := ⟨w.heap.size, 1, none⟩) (by show w.heap.size < _; omega)).trans (by simp only [World.cell?, HA]; rfl)
  have q2 : ((w.alloc (.cells #[.bool true, .slice a1 n1 c1, .slice a n c] 42)).alloc (.cells #[.int .i64 0, .slice none 0 0, .slice none 0 0, .slice none 0 0] 25)).cell? ⟨w.heap.size, 2, none⟩ = some (.slice a n c) := (bB.cell (p := ⟨w.heap.size, 2, none⟩) (by show w.heap.size < _; omega)).trans (by simp only [World.cell?, HA]; rfl)
  have hsz : ((w.alloc (.cells #[.bool true, .slice a1 n1 c1, .slice a n c] 42)).alloc (.cells #[.int .i64 0, .slice none 0 0, .slice none 0 0, .slice none 0 0] 25)).heap.size = w.heap.size + 2 := by simp
  clear HA bB hs1
  go_enter Try.func12, Try.ntmps12
  go_upto_region 1 with fail
  generalize ((w.alloc (.cells #[.bool true, .slice a1 n1 c1, .slice a n c] 42)).alloc (.cells #[.int .i64 0, .slice none 0 0, .slice none 0 0, .slice none 0 0] 25)) = W0 at *
  obtain ⟨h, eh⟩ : ∃ h, h = w.heap.size := ⟨_, rfl⟩
  have EH : Hid (h = w.heap.size) := eh
  have L0 : Hid (Below w.heap.size w W0) := l0
  have X0 : Hid (BS (h + 1) W0) := eh ▸ x0
  have HSZ : Hid (W0.heap.size = h + 2) := by show _ = _; rw [eh]; exact hsz
  rw [← eh] at q0 q1 q2 ⊢
  clear eh l0 x0 hsz
  obtain rfl := hR.out
  have L00 := L0.out
  go_wp2_with fail
  refine (KT.out _ L00).mono (fun e w1 he => ?_)
  obtain ⟨x, m, y, rfl, hx, b1⟩ := he
  have l1 : Below w.heap.size w w1 := L00.trans (b1.mono L00.size)
  have x1 : BS (h + 1) w1 := BS_gb (r := none) X0.out (gb_below b1) nofun
  clear KT L00 b1 q0 q1 q2 hx
  go_upto_region 8 with fail
  go_wp2_with (refine wpList_stS rfl rfl rfl rfl x1 ?_)
  intro w6 g6 z0 z1 z2 z3
  have l6 : Hid (Below w.heap.size w w6) := l1.trans ⟨g6.os, g6.tape, g6.output, g6.size, fun j hj => g6.block j (by have := l1.size; omega) (fun e => by injection e with e; have := EH.out; omega)⟩
  clear g6 x1 l1
  go_wp2_with fail
  exact bodyPost_ret (v := .tuple #[.agg #[.int .i64 0, .slice none 0 0, .slice none 0 0, .slice none 0 0], .bool false]) (resS2 _ _ _ (h + 1) 2 3 _ _ _ _ _ rfl rfl rfl z0 z1 z2 z3) rfl ⟨(.int .i64 0, .slice none 0 0, .slice none 0 0, .slice none 0 0), rfl, nofun, l6.out, ⟨_, _, _, _, _, _, _, _, _, _, rfl⟩⟩
set_option maxHeartbeats 4000000 in
set_option maxRecDepth 100000 in
theorem so_other (a1 a : Option Addr) (n1 c1 n c : Nat) (w : World) (R : Bool) (l : List (List UInt8)) (KT : Hid (∀ wx : World, Below w.heap.size w wx → Calls Try.prog 27 #[.agg #[.bool true, .slice a1 n1 c1, .slice a n c]] wx fun e w' => ∃ x m y, e = .returned (.tuple #[.slice x m y, .bool R]) ∧ (R = true → Ls l (.slice x m y) w' ∧ Rf wx.heap.size (.slice x m y) ∧ m ≤ y) ∧ Below wx.heap.size wx w')) (hR : Hid (R = true)) (h2 : Hid (l.length ≠ 2)) (h17 : Hid (l.length ≠ 17)) :
    Calls Try.prog 12 #[.agg #[.bool true, .slice a1 n1 c1, .slice a n c]] w (PS w none) := by
  have l0 : Below w.heap.size w ((w.alloc (.cells #[.bool true, .slice a1 n1 c1, .slice a n c] 42)).alloc (.cells #[.int .i64 0, .slice none 0 0, .slice none 0 0, .slice none 0 0] 25)) := ((Below.refl _ _).alloc (Nat.le_refl _) _).alloc (by simp) _
  have hs1 : (w.alloc (.cells #[.bool true, .slice a1 n1 c1, .slice a n c] 42)).heap.size = w.heap.size + 1 := by simp
  have x0 : BS (w.heap.size + 1) ((w.alloc (.cells #[.bool true, .slice a1 n1 c1, .slice a n c] 42)).alloc (.cells #[.int .i64 0, .slice none 0 0, .slice none 0 0, .slice none 0 0] 25)) := hs1 ▸ BS_new (w.alloc (.cells #[.bool true, .slice a1 n1 c1, .slice a n c] 42))
  have HA := heap_alloc_new w (.cells #[.bool true, .slice a1 n1 c1, .slice a n c] 42)
  have bB : Below (w.heap.size + 1) (w.alloc (.cells #[.bool true, .slice a1 n1 c1, .slice a n c] 42)) ((w.alloc (.cells #[.bool true, .slice a1 n1 c1, .slice a n c] 42)).alloc (.cells #[.int .i64 0, .slice none 0 0, .slice none 0 0, .slice none 0 0] 25)) := (Below.refl _ _).alloc (by omega) _
  have q0 : ((w.alloc (.cells #[.bool true, .slice a1 n1 c1, .slice a n c] 42)).alloc (.cells #[.int .i64 0, .slice none 0 0, .slice none 0 0, .slice none 0 0] 25)).cell? ⟨w.heap.size, 0, none⟩ = some (.bool true) := (bB.cell (p := ⟨w.heap.size, 0, none⟩) (by show w.heap.size < _; omega)).trans (by simp only [World.cell?, HA]; rfl)
  have q1 : ((w.alloc (.cells #[.bool true, .slice a1 n1 c1, .slice a n c] 42)).alloc (.cells #[.int .i64 0, .slice none 0 0, .slice none 0 0, .slice none 0 0] 25)).cell? ⟨w.heap.size, 1, none⟩ = some (.slice a1 n1 c1) := (bB.cell (p := ⟨w.heap.size, 1, none⟩) (by show w.heap.size < _; omega)).trans (by simp only [World.cell?, HA]; rfl)
  have q2 : ((w.alloc (.cells #[.bool true, .slice a1 n1 c1, .slice a n c] 42)).alloc (.cells #[.int .i64 0, .slice none 0 0, .slice none 0 0, .slice none 0 0] 25)).cell? ⟨w.heap.size, 2, none⟩ = some (.slice a n c) := (bB.cell (p := ⟨w.heap.size, 2, none⟩) (by show w.heap.size < _; omega)).trans (by simp only [World.cell?, HA]; rfl)
  have hsz : ((w.alloc (.cells #[.bool true, .slice a1 n1 c1, .slice a n c] 42)).alloc (.cells #[.int .i64 0, .slice none 0 0, .slice none 0 0, .slice none 0 0] 25)).heap.size = w.heap.size + 2 := by simp
  clear HA bB hs1
  go_enter Try.func12, Try.ntmps12
  go_upto_region 1 with fail
  generalize ((w.alloc (.cells #[.bool true, .slice a1 n1 c1, .slice a n c] 42)).alloc (.cells #[.int .i64 0, .slice none 0 0, .slice none 0 0, .slice none 0 0] 25)) = W0 at *
  obtain ⟨h, eh⟩ : ∃ h, h = w.heap.size := ⟨_, rfl⟩
  have EH : Hid (h = w.heap.size) := eh
  have L0 : Hid (Below w.heap.size w W0) := l0
  have X0 : Hid (BS (h + 1) W0) := eh ▸ x0
  have HSZ : Hid (W0.heap.size = h + 2) := by show _ = _; rw [eh]; exact hsz
  rw [← eh] at q0 q1 q2 ⊢
  clear eh l0 x0 hsz
  obtain rfl := hR.out
  have L00 := L0.out
  go_wp2_with fail
  refine (KT.out _ L00).mono (fun e w1 he => ?_)
  obtain ⟨x, m, y, rfl, hx, b1⟩ := he
  have l1 : Below w.heap.size w w1 := L00.trans (b1.mono L00.size)
  have x1 : BS (h + 1) w1 := BS_gb (r := none) X0.out (gb_below b1) nofun
  obtain ⟨hl, hrf, hcap⟩ := hx (by trivial)
  obtain ⟨a0, c0, e0⟩ := Ls_form hl
  have em : m = l.length := by injection e0
  have t2 : ((m : Int) == 2) = false := beq_eq_false_iff_ne.2 (by have := h2.out; omega)
  have t17 : ((m : Int) == 17) = false := beq_eq_false_iff_ne.2 (by have := h17.out; omega)
  clear KT L00 b1 q0 q1 q2 hx hl hrf e0 em hcap
  go_upto_region 8 with fail
  go_wp2_with (refine wpList_stS rfl rfl rfl rfl x1 ?_)
  intro w6 g6 z0 z1 z2 z3
  have l6 : Hid (Below w.heap.size w w6) := l1.trans ⟨g6.os, g6.tape, g6.output, g6.size, fun j hj => g6.block j (by have := l1.size; omega) (fun e => by injection e with e; have := EH.out; omega)⟩
  clear g6 x1 l1
  go_wp2_with fail
  exact bodyPost_ret (v := .tuple #[.agg #[.int .i64 0, .slice none 0 0, .slice none 0 0, .slice none 0 0], .bool false]) (resS2 _ _ _ (h + 1) 2 3 _ _ _ _ _ rfl rfl rfl z0 z1 z2 z3) rfl ⟨(.int .i64 0, .slice none 0 0, .slice none 0 0, .slice none 0 0), rfl, nofun, l6.out, ⟨_, _, _, _, _, _, _, _, _, _, rfl⟩⟩
set_option maxHeartbeats 4000000 in
set_option maxRecDepth 100000 in
theorem so_two (a1 a : Option Addr) (n1 c1 n c : Nat) (w : World) (R : Bool) (l : List (List UInt8)) (KT : Hid (∀ wx : World, Below w.heap.size w wx → Calls Try.prog 27 #[.agg #[.bool true, .slice a1 n1 c1, .slice a n c]] wx fun e w' => ∃ x m y, e = .returned (.tuple #[.slice x m y, .bool R]) ∧ (R = true → Ls l (.slice x m y) w' ∧ Rf wx.heap.size (.slice x m y) ∧ m ≤ y) ∧ Below wx.heap.size wx w')) (hR : Hid (R = true)) (h2 : Hid (l.length = 2)) (hz : Hid ((l.getD 0 []).length ≤ 2097152)) (o : Option Shp) (ho : Hid (o = ts (l.getD 0 []) (l.getD 1 []))) :
    Calls Try.prog 12 #[.agg #[.bool true, .slice a1 n1 c1, .slice a n c]] w (PS w o) := by
  have l0 : Below w.heap.size w ((w.alloc (.cells #[.bool true, .slice a1 n1 c1, .slice a n c] 42)).alloc (.cells #[.int .i64 0, .slice none 0 0, .slice none 0 0, .slice none 0 0] 25)) := ((Below.refl _ _).alloc (Nat.le_refl _) _).alloc (by simp) _
  have hs1 : (w.alloc (.cells #[.bool true, .slice a1 n1 c1, .slice a n c] 42)).heap.size = w.heap.size + 1 := by simp
  have x0 : BS (w.heap.size + 1) ((w.alloc (.cells #[.bool true, .slice a1 n1 c1, .slice a n c] 42)).alloc (.cells #[.int .i64 0, .slice none 0 0, .slice none 0 0, .slice none 0 0] 25)) := hs1 ▸ BS_new (w.alloc (.cells #[.bool true, .slice a1 n1 c1, .slice a n c] 42))
  have HA := heap_alloc_new w (.cells #[.bool true, .slice a1 n1 c1, .slice a n c] 42)
  have bB : Below (w.heap.size + 1) (w.alloc (.cells #[.bool true, .slice a1 n1 c1, .slice a n c] 42)) ((w.alloc (.cells #[.bool true, .slice a1 n1 c1, .slice a n c] 42)).alloc (.cells #[.int .i64 0, .slice none 0 0, .slice none 0 0, .slice none 0 0] 25)) := (Below.refl _ _).alloc (by omega) _
  have q0 : ((w.alloc (.cells #[.bool true, .slice a1 n1 c1, .slice a n c] 42)).alloc (.cells #[.int .i64 0, .slice none 0 0, .slice none 0 0, .slice none 0 0] 25)).cell? ⟨w.heap.size, 0, none⟩ = some (.bool true) := (bB.cell (p := ⟨w.heap.size, 0, none⟩) (by show w.heap.size < _; omega)).trans (by simp only [World.cell?, HA]; rfl)
  have q1 : ((w.alloc (.cells #[.bool true, .slice a1 n1 c1, .slice a n c] 42)).alloc (.cells #[.int .i64 0, .slice none 0 0, .slice none 0 0, .slice none 0 0] 25)).cell? ⟨w.heap.size, 1, none⟩ = some (.slice a1 n1 c1) := (bB.cell (p := ⟨w.heap.size, 1, none⟩) (by show w.heap.size < _; omega)).trans (by simp only [World.cell?, HA]; rfl)
  have q2 : ((w.alloc (.cells #[.bool true, .slice a1 n1 c1, .slice a n c] 42)).alloc (.cells #[.int .i64 0, .slice none 0 0, .slice none 0 0, .slice none 0 0] 25)).cell? ⟨w.heap.size, 2, none⟩ = some (.slice a n c) := (bB.cell (p := ⟨w.heap.size, 2, none⟩) (by show w.heap.size < _; omega)).trans (by simp only [World.cell?, HA]; rfl)
  have hsz : ((w.alloc (.cells #[.bool true, .slice a1 n1 c1, .slice a n c] 42)).alloc (.cells #[.int .i64 0, .slice none 0 0, .slice none 0 0, .slice none 0 0] 25)).heap.size = w.heap.size + 2 := by simp
  clear HA bB hs1
  go_enter Try.func12, Try.ntmps12
  go_upto_region 1 with fail
  generalize ((w.alloc (.cells #[.bool true, .slice a1 n1 c1, .slice a n c] 42)).alloc (.cells #[.int .i64 0, .slice none 0 0, .slice none 0 0, .slice none 0 0] 25)) = W0 at *
  obtain ⟨h, eh⟩ : ∃ h, h = w.heap.size := ⟨_, rfl⟩
  have EH : Hid (h = w.heap.size) := eh
  have L0 : Hid (Below w.heap.size w W0) := l0
  have X0 : Hid (BS (h + 1) W0) := eh ▸ x0
  have HSZ : Hid (W0.heap.size = h + 2) := by show _ = _; rw [eh]; exact hsz
  rw [← eh] at q0 q1 q2 ⊢
  clear eh l0 x0 hsz
  obtain rfl := hR.out
  have L00 := L0.out
  go_wp2_with fail
  refine (KT.out _ L00).mono (fun e w1 he => ?_)
  obtain ⟨x, m, y, rfl, hx, b1⟩ := he
  have l1 : Below w.heap.size w w1 := L00.trans (b1.mono L00.size)
  have x1 : BS (h + 1) w1 := BS_gb (r := none) X0.out (gb_below b1) nofun
  obtain ⟨hl, hrf, hcap⟩ := hx (by trivial)
  obtain ⟨ax, cx, ex, hL⟩ := hl
  injection ex with e1 e2 e3
  subst e1 e3
  rw [h2.out] at e2
  subst e2
  obtain ⟨g, off, rfl, hg, hc⟩ := hL (by rw [h2.out]; decide)
  obtain ⟨v0, k0, s0⟩ := hc 0 (by rw [h2.out]; decide)
  obtain ⟨v1, k1, s1⟩ := hc 1 (by rw [h2.out]; decide)
  obtain ⟨b0, d0, rfl⟩ := Sl_fm s0
  obtain ⟨b2, d2, rfl⟩ := Sl_fm s1
  have HG : Hid (g < w1.heap.size ∧ w1.cell? ⟨g, off, none⟩ = some (.slice b0 (l.getD 0 []).length d0) ∧ w1.cell? ⟨g, off + 1, none⟩ = some (.slice b2 (l.getD 1 []).length d2)) := ⟨hg, k0, k1⟩
  have KS : Hid (∀ wx : World, Below w1.heap.size w1 wx → Calls Try.prog 28 #[.slice b0 (l.getD 0 []).length d0, .slice b2 (l.getD 1 []).length d2] wx (PS wx o)) := fun wx hb => by
    rw [ho.out]
    exact tshape_any _ _ b0 b2 d0 d2 wx (Sl_below s0 hb) (Sl_below s1 hb) hz.out
  clear KT L00 b1 q0 q1 q2 hx hL hc hrf k0 k1 s0 s1 hg hcap
  generalize (l.getD 0 []).length = m0 at *
  generalize (l.getD 1 []).length = m1 at *
  go_upto_region 5 with fail
  refine RH.wp_region_genI (T5 w1 o.isSome (fun v wx => (∀ s, o = some s → Sh s v wx ∧ Rf w1.heap.size v.2.2.2) ∧ F4 v)) [0, 0, 0, 0, 0, 0, 1, 1, 1, 2, 2] (by kernel_rfl) (by kernel_rfl) (⟨(Below.refl _ _).drew, nofun, nofun, nofun⟩) ?_
  dsimp only [List.toList_toArray]
  refine RH.goD (v := ?_) (f' := ?_) rfl ?_ ?_ ?_
  rotate_left 2
  · intro U K d wx hI hmay hK
    go_simp
    exact hK _ (T5.keep (by decide) hI)
  · intro U
    simp only [Act.put, List.setIfInBounds_toArray, List.set_cons_succ, List.set_cons_zero]
    rfl
  refine RH.goD (v := ?_) (f' := ?_) rfl ?_ ?_ ?_
  rotate_left 2
  · intro U K d wx hI hmay hK
    go_simp
    exact hK _ (T5.keep (by decide) hI)
  · intro U
    simp only [Act.put, List.setIfInBounds_toArray, List.set_cons_succ, List.set_cons_zero]
    rfl
  refine RH.goD (v := ?_) (f' := ?_) rfl ?_ ?_ ?_
  rotate_left 2
  · intro U K d wx hI hmay hK
    have y0 := (hI.b.cell (p := ⟨g, off, none⟩) HG.out.1).trans HG.out.2.1
    go_simp
    exact hK _ (T5.keep (by decide) hI)
  · intro U
    simp only [Act.put, List.setIfInBounds_toArray, List.set_cons_succ, List.set_cons_zero]
    rfl
  refine RH.goD (v := ?_) (f' := ?_) rfl ?_ ?_ ?_
  rotate_left 2
  · intro U K d wx hI hmay hK
    go_simp
    exact hK _ (T5.keep (by decide) hI)
  · intro U
    simp only [Act.put, List.setIfInBounds_toArray, List.set_cons_succ, List.set_cons_zero]
    rfl
  refine RH.goD (v := ?_) (f' := ?_) rfl ?_ ?_ ?_
  rotate_left 2
  · intro U K d wx hI hmay hK
    go_simp
    exact hK _ (T5.keep (by decide) hI)
  · intro U
    simp only [Act.put, List.setIfInBounds_toArray, List.set_cons_succ, List.set_cons_zero]
    rfl
  refine RH.goD (v := ?_) (f' := ?_) rfl ?_ ?_ ?_
  rotate_left 2
  · intro U K d wx hI hmay hK
    have y0 := (hI.b.cell (p := ⟨g, off + 1, none⟩) HG.out.1).trans HG.out.2.2
    go_simp
    exact hK _ (T5.keep (by decide) hI)
  · intro U
    simp only [Act.put, List.setIfInBounds_toArray, List.set_cons_succ, List.set_cons_zero]
    rfl
  refine RH.goN (f' := ?_) rfl ?_ ?_ ?_
  rotate_left 1
  · intro U K d wx hI hmay hK
    have h6 : d 6 = false := hmay.1
    go_simp
    refine (KS.out _ hI.b).mono (fun e w2 he => ?_)
    obtain ⟨v, rfl, k1, k2, k3⟩ := he
    refine ⟨_, rfl, ?_⟩
    exact hK _ _ (T5.call hI h6 v k2 ⟨fun s hs => ⟨(k1 s hs).1, fun z hz => Nat.le_trans hI.b.size ((k1 s hs).2 z hz)⟩, k3⟩)
  · intro U
    simp only [Act.put, List.setIfInBounds_toArray, List.set_cons_succ, List.set_cons_zero]
    rfl
  refine RH.goN (f' := ?_) rfl ?_ ?_ ?_
  rotate_left 1
  · intro U K d wx hI hmay hK
    have hd := hmay.2 _ rfl
    simp [Region.binds] at hd
    obtain ⟨v, e6, _⟩ := hI.p (by simp [hd])
    have hK2 := hK _ _ (T5.t7 hI (by simp [hd]) v e6)
    go_simp
    exact hK2
  · intro U
    simp only [Act.put, List.setIfInBounds_toArray, List.set_cons_succ, List.set_cons_zero]
    rfl
  refine RH.goN (f' := ?_) rfl ?_ ?_ ?_
  rotate_left 1
  · intro U K d wx hI hmay hK
    have hd := hmay.2 _ rfl
    simp [Region.binds] at hd
    obtain ⟨v, e6, _⟩ := hI.p (by simp [hd])
    have hK2 := hK _ _ (T5.t8 hI (by simp [hd]))
    go_simp
    exact hK2
  · intro U
    simp only [Act.put, List.setIfInBounds_toArray, List.set_cons_succ, List.set_cons_zero]
    rfl
  refine RH.goT ?_
  refine RH.goT ?_
  refine RH.go_end ?_
  intro d U w9 hI hall
  simp +decide only [RH.tl, if_true, if_false]
  obtain ⟨v, e6, ⟨hv, k, p1, p2, p3, p4, p5, p6, p7, p8, p9, rfl⟩, e7, e8⟩ := hI.p (by rw [hall 6 (by decide)]; rfl)
  have e7 := e7 (by rw [hall 7 (by decide)]; rfl)
  have e8 := e8 (by rw [hall 8 (by decide)]; rfl)
  have x9 : BS (h + 1) w9 := BS_gb (r := none) x1 (gb_below hI.b) nofun
  have l9 : Below w.heap.size w w9 := l1.trans (hI.b.mono l1.size)
  have HH : Hid (h + 1 < w1.heap.size) := x1.hi
  dsimp only [v4] at e7
  rw [e7, e8]
  generalize U 6 = U6 at *
  clear hI hall x1 e6 e7 e8
  go_wp2_with (refine wpList_stS rfl rfl rfl rfl x9 ?_)
  intro w6 g6 z0 z1 z2 z3
  have l6 : Hid (Below w.heap.size w w6) := l9.trans ⟨g6.os, g6.tape, g6.output, g6.size, fun j hj => g6.block j (by have := l9.size; omega) (fun e => by injection e with e; have := EH.out; omega)⟩
  have S6 : Hid (∀ s, o = some s → Sh s (.int .i64 k, .slice p1 p2 p3, .slice p4 p5 p6, .slice p7 p8 p9) w6 ∧ Rf w.heap.size (.slice p7 p8 p9)) := fun s hs => ⟨Sh_gb (hv s hs).1 (BS_nb x9) (fun e => by have := (hv s hs).2 _ e; have := HH.out; omega) g6, fun z hz => by have := (hv s hs).2 z hz; have := l1.size; omega⟩
  clear g6 x9 l9 hv l1
  go_wp2_with fail
  exact bodyPost_ret (v := .tuple #[.agg #[.int .i64 k, .slice p1 p2 p3, .slice p4 p5 p6, .slice p7 p8 p9], .bool o.isSome]) (resS2 _ _ _ (h + 1) 2 3 _ _ _ _ _ rfl rfl rfl z0 z1 z2 z3) rfl ⟨(.int .i64 k, .slice p1 p2 p3, .slice p4 p5 p6, .slice p7 p8 p9), rfl, S6.out, l6.out, ⟨_, _, _, _, _, _, _, _, _, _, rfl⟩⟩
set_option maxHeartbeats 4000000 in
set_option maxRecDepth 100000 in
theorem so_fork (a1 a : Option Addr) (n1 c1 n c : Nat) (w : World) (R : Bool) (l : List (List UInt8)) (KT : Hid (∀ wx : World, Below w.heap.size w wx → Calls Try.prog 27 #[.agg #[.bool true, .slice a1 n1 c1, .slice a n c]] wx fun e w' => ∃ x m y, e = .returned (.tuple #[.slice x m y, .bool R]) ∧ (R = true → Ls l (.slice x m y) w' ∧ Rf wx.heap.size (.slice x m y) ∧ m ≤ y) ∧ Below wx.heap.size wx w')) (hR : Hid (R = true)) (h2 : Hid (l.length = 17)) :
    Calls Try.prog 12 #[.agg #[.bool true, .slice a1 n1 c1, .slice a n c]] w (PS w (some (3, [], l.getD 16 [], l.take 16))) := by
  have l0 : Below w.heap.size w ((w.alloc (.cells #[.bool true, .slice a1 n1 c1, .slice a n c] 42)).alloc (.cells #[.int .i64 0, .slice none 0 0, .slice none 0 0, .slice none 0 0] 25)) := ((Below.refl _ _).alloc (Nat.le_refl _) _).alloc (by simp) _
  have hs1 : (w.alloc (.cells #[.bool true, .slice a1 n1 c1, .slice a n c] 42)).heap.size = w.heap.size + 1 := by simp
  have x0 : BS (w.heap.size + 1) ((w.alloc (.cells #[.bool true, .slice a1 n1 c1, .slice a n c] 42)).alloc (.cells #[.int .i64 0, .slice none 0 0, .slice none 0 0, .slice none 0 0] 25)) := hs1 ▸ BS_new (w.alloc (.cells #[.bool true, .slice a1 n1 c1, .slice a n c] 42))
  have HA := heap_alloc_new w (.cells #[.bool true, .slice a1 n1 c1, .slice a n c] 42)
  have bB : Below (w.heap.size + 1) (w.alloc (.cells #[.bool true, .slice a1 n1 c1, .slice a n c] 42)) ((w.alloc (.cells #[.bool true, .slice a1 n1 c1, .slice a n c] 42)).alloc (.cells #[.int .i64 0, .slice none 0 0, .slice none 0 0, .slice none 0 0] 25)) := (Below.refl _ _).alloc (by omega) _
  have q0 : ((w.alloc (.cells #[.bool true, .slice a1 n1 c1, .slice a n c] 42)).alloc (.cells #[.int .i64 0, .slice none 0 0, .slice none 0 0, .slice none 0 0] 25)).cell? ⟨w.heap.size, 0, none⟩ = some (.bool true) := (bB.cell (p := ⟨w.heap.size, 0, none⟩) (by show w.heap.size < _; omega)).trans (by simp only [World.cell?, HA]; rfl)
  have q1 : ((w.alloc (.cells #[.bool true, .slice a1 n1 c1, .slice a n c] 42)).alloc (.cells #[.int .i64 0, .slice none 0 0, .slice none 0 0, .slice none 0 0] 25)).cell? ⟨w.heap.size, 1, none⟩ = some (.slice a1 n1 c1) := (bB.cell (p := ⟨w.heap.size, 1, none⟩) (by show w.heap.size < _; omega)).trans (by simp only [World.cell?, HA]; rfl)
  have q2 : ((w.alloc (.cells #[.bool true, .slice a1 n1 c1, .slice a n c] 42)).alloc (.cells #[.int .i64 0, .slice none 0 0, .slice none 0 0, .slice none 0 0] 25)).cell? ⟨w.heap.size, 2, none⟩ = some (.slice a n c) := (bB.cell (p := ⟨w.heap.size, 2, none⟩) (by show w.heap.size < _; omega)).trans (by simp only [World.cell?, HA]; rfl)
  have hsz : ((w.alloc (.cells #[.bool true, .slice a1 n1 c1, .slice a n c] 42)).alloc (.cells #[.int .i64 0, .slice none 0 0, .slice none 0 0, .slice none 0 0] 25)).heap.size = w.heap.size + 2 := by simp
  clear HA bB hs1
  go_enter Try.func12, Try.ntmps12
  go_upto_region 1 with fail
  generalize ((w.alloc (.cells #[.bool true, .slice a1 n1 c1, .slice a n c] 42)).alloc (.cells #[.int .i64 0, .slice none 0 0, .slice none 0 0, .slice none 0 0] 25)) = W0 at *
  obtain ⟨h, eh⟩ : ∃ h, h = w.heap.size := ⟨_, rfl⟩
  have EH : Hid (h = w.heap.size) := eh
  have L0 : Hid (Below w.heap.size w W0) := l0
  have X0 : Hid (BS (h + 1) W0) := eh ▸ x0
  have HSZ : Hid (W0.heap.size = h + 2) := by show _ = _; rw [eh]; exact hsz
  rw [← eh] at q0 q1 q2 ⊢
  clear eh l0 x0 hsz
  obtain rfl := hR.out
  have L00 := L0.out
  go_wp2_with fail
  refine (KT.out _ L00).mono (fun e w1 he => ?_)
  obtain ⟨x, m, y, rfl, hx, b1⟩ := he
  have l1 : Below w.heap.size w w1 := L00.trans (b1.mono L00.size)
  have x1 : BS (h + 1) w1 := BS_gb (r := none) X0.out (gb_below b1) nofun
  obtain ⟨hl, hrf, hcap⟩ := hx (by trivial)
  obtain ⟨hs, hh, hvl⟩ := ls_heads hl
  obtain ⟨ax, cx, ex, hL⟩ := hl
  injection ex with e1 e2 e3
  subst e1 e3
  rw [h2.out] at e2
  subst e2
  obtain ⟨g, off, rfl, hg, hc⟩ := hL (by rw [h2.out]; decide)
  obtain ⟨v0, k0, s0⟩ := hc 16 (by rw [h2.out]; decide)
  obtain ⟨b0, d0, rfl⟩ := Sl_fm s0
  have HG : Hid (g < w1.heap.size ∧ w1.cell? ⟨g, off + 16, none⟩ = some (.slice b0 (l.getD 16 []).length d0)) := ⟨hg, k0⟩
  have HS0 : Hid (Sl (l.getD 16 []) (.slice b0 (l.getD 16 []).length d0) w1) := s0
  have KC : Hid (∀ wx : World, Below w1.heap.size w1 wx → Calls Try.prog 29 #[.slice (some ⟨g, off, none⟩) 16 y] wx fun e w' => ∃ v, e = .returned v ∧ Ls (l.take 16) v w' ∧ Rf w1.heap.size v ∧ Below wx.heap.size wx w') := fun wx hb => by
    have hhl : hs.length = 17 := by rw [hh.l, h2.out]
    have hv16 : Vl (hs.take 16) (.slice (some ⟨g, off, none⟩) 16 y) wx := by
      obtain ⟨ao, cap, e, hV⟩ := Vl_below hvl hb
      injection e with e1 _ _
      subst e1
      obtain ⟨g', off', e4, hg', hc'⟩ := hV (by omega)
      injection e4 with e4
      injection e4 with e5 e6 _
      subst e5 e6
      refine ⟨_, y, by rw [List.length_take, hhl]; rfl, fun _ => ⟨g, off, rfl, hg', fun j hj => ?_⟩⟩
      rw [List.length_take] at hj
      rw [hc' j (by omega), List.getElem?_take, if_pos (by omega)]
    have hd16 : Hds (l.take 16) (hs.take 16) wx := ⟨by rw [List.length_take, List.length_take, hh.l], fun i hi => by
      rw [List.length_take] at hi
      have := Sl_below (hh.s i (by omega)) hb
      rw [List.getD_eq_getElem?_getD, List.getD_eq_getElem?_getD] at this ⊢
      rw [List.getElem?_take, List.getElem?_take, if_pos (by omega), if_pos (by omega)]
      exact this⟩
    refine (clone_any (hs.take 16) _ wx (by rw [List.length_take]; omega) (Hds_one' hd16) hv16).mono fun e w' he => ?_
    obtain ⟨v', k1, k2, k3⟩ := he
    exact ⟨v', k1, own_ls k2 (Hds_below hd16 k3), fun z hz => Nat.le_trans hb.size (rf_own k2 z hz), k3⟩
  clear KT L00 b1 q0 q1 q2 hx hL hc hrf k0 s0 hg hh hvl
  generalize (l.getD 16 []).length = m0 at *
  have hL : RG.Lasts (fun wx => Below w1.heap.size w1 wx) (fun _ v wx => ∃ x1 m1 y1, v = .slice x1 m1 y1 ∧ Ls (l.take 16) v wx ∧ Rf w1.heap.size v) := ⟨fun _ _ h hb => h.trans (hb.mono h.size), fun _ _ _ _ h hb => by
    obtain ⟨x1, m1, y1, h1, h2, h3⟩ := h
    exact ⟨x1, m1, y1, h1, Ls_below h2 hb, h3⟩⟩
  have i1 : (16 : Int) ≤ (y : Int) := by omega
  have i2 : 16 ≤ y := by omega
  go_upto_region 7 with fail
  refine RG.wp_region_gen (fun wx => Below w1.heap.size w1 wx) (fun _ v wx => ∃ x1 m1 y1, v = .slice x1 m1 y1 ∧ Ls (l.take 16) v wx ∧ Rf w1.heap.size v) (fun _ _ => True) [0, 0, 1, 0, 0, 0, 2, 2, 2] (by kernel_rfl) (by kernel_rfl) ((Below.refl _ _).drew) ?_
  dsimp only [List.toList_toArray]
  refine RG.go1 (v := ?_) (a' := ?_) hL (by decide) rfl ?_ ?_ ?_
  rotate_left 2
  · intro K wx hS hK
    go_simp
    exact hK _ (Below.refl _ _)
  · simp only [Act.put, List.setIfInBounds_toArray, List.set_cons_succ, List.set_cons_zero]
    rfl
  refine RG.go1 (v := ?_) (a' := ?_) hL (by decide) rfl ?_ ?_ ?_
  rotate_left 2
  · intro K wx hS hK
    go_simp
    exact hK _ (Below.refl _ _)
  · simp only [Act.put, List.setIfInBounds_toArray, List.set_cons_succ, List.set_cons_zero]
    rfl
  refine RG.goN hL rfl ?_ ?_
  · intro K wx hS hK
    go_simp
    refine (KC.out _ hS).mono (fun e w2 he => ?_)
    obtain ⟨v, rfl, h1, h2, h3⟩ := he
    obtain ⟨x1, y1, rfl⟩ := Ls_form h1
    refine ⟨_, rfl, ?_⟩
    exact hK _ _ h3 ⟨_, _, _, rfl, h1, h2⟩ (fun _ _ _ => ⟨trivial, trivial⟩)
  refine RG.go1 (v := ?_) (a' := ?_) hL (by decide) rfl ?_ ?_ ?_
  rotate_left 2
  · intro K wx hS hK
    go_simp
    exact hK _ (Below.refl _ _)
  · simp only [Act.put, List.setIfInBounds_toArray, List.set_cons_succ, List.set_cons_zero]
    rfl
  refine RG.go1 (v := ?_) (a' := ?_) hL (by decide) rfl ?_ ?_ ?_
  rotate_left 2
  · intro K wx hS hK
    go_simp
    exact hK _ (Below.refl _ _)
  · simp only [Act.put, List.setIfInBounds_toArray, List.set_cons_succ, List.set_cons_zero]
    rfl
  refine RG.go1 (v := ?_) (a' := ?_) hL (by decide) rfl ?_ ?_ ?_
  rotate_left 2
  · intro K wx hS hK
    have y0 := (hS.cell (p := ⟨g, off + 16, none⟩) HG.out.1).trans HG.out.2
    go_simp
    exact hK _ (Below.refl _ _)
  · simp only [Act.put, List.setIfInBounds_toArray, List.set_cons_succ, List.set_cons_zero]
    rfl
  refine RG.goT ?_
  refine RG.goT ?_
  refine RG.goT ?_
  refine RG.go_end ?_
  intro U w9 m9 y9 x9
  simp +decide (maxSteps := 1000000) only [RG.tl, RG.putN, if_true, if_false, Act.put, List.setIfInBounds_toArray, List.set_cons_succ, List.set_cons_zero, Nat.reduceAdd]
  obtain ⟨p1, p2, p3, e2, hk, hr⟩ := y9 2 rfl
  rw [e2] at hk hr ⊢
  have x9' : BS (h + 1) w9 := BS_gb (r := none) x1 (gb_below m9) nofun
  have l9 : Below w.heap.size w w9 := l1.trans (m9.mono l1.size)
  have HH : Hid (h + 1 < w1.heap.size) := x1.hi
  have S9 : Hid (Sh (3, [], l.getD 16 [], l.take 16) (.int .i64 3, .slice none 0 0, .slice b0 m0 d0, .slice p1 p2 p3) w9) := ⟨rfl, Sl_nil _, Sl_below HS0.out m9, hk⟩
  have HR : Hid (Rf w1.heap.size (.slice p1 p2 p3)) := hr
  have HL1 : Hid (w.heap.size ≤ w1.heap.size) := l1.size
  clear x9 y9 m9 hL e2 hk hr x1 HG KC HS0 i1 i2 hcap l1
  go_wp2_with (refine wpList_stS rfl rfl rfl rfl x9' ?_)
  intro w6 g6 z0 z1 z2 z3
  have l6 : Hid (Below w.heap.size w w6) := l9.trans ⟨g6.os, g6.tape, g6.output, g6.size, fun j hj => g6.block j (by have := l9.size; omega) (fun e => by injection e with e; have := EH.out; omega)⟩
  have S6 : Hid (Sh (3, [], l.getD 16 [], l.take 16) (.int .i64 3, .slice none 0 0, .slice b0 m0 d0, .slice p1 p2 p3) w6) := Sh_gb S9.out (BS_nb x9') (fun e => by have := HR.out _ e; have := HH.out; omega) g6
  clear g6 x9' l9 S9
  go_wp2_with fail
  exact bodyPost_ret (v := .tuple #[.agg #[.int .i64 3, .slice none 0 0, .slice b0 m0 d0, .slice p1 p2 p3], .bool true]) (resS2 _ _ _ (h + 1) 2 3 _ _ _ _ _ rfl rfl rfl z0 z1 z2 z3) rfl ⟨(.int .i64 3, .slice none 0 0, .slice b0 m0 d0, .slice p1 p2 p3), rfl, fun s hs => by cases hs; exact ⟨S6.out, fun z hz => Nat.le_trans HL1.out (HR.out z hz)⟩, l6.out, ⟨_, _, _, _, _, _, _, _, _, _, rfl⟩⟩
end Rs
end Go.Proofs.Ytcgimjlmihaegaa
/- root.shapeOf at every item; root.Read. -/
namespace Go.Proofs.Ytcgimjlmihaegaa
namespace Rs
open Nb Sp Pk Go.RowKit
theorem map_txt (ks : List It) (j : Nat) : (ks.map txt).getD j [] = txt (ks.getD j It.no) := by
  by_cases h : j < ks.length
  · simp [List.getD_eq_getElem?_getD, List.getElem?_map, List.getElem?_eq_getElem h]
  · simp [List.getD_eq_getElem?_getD, List.getElem?_eq_none (show ks.length ≤ j by omega)]
    rfl
theorem enc_kds {t : It} (hl : isL t = true) : (encs (kds t)).length ≤ (enc t).length := by
  obtain ⟨l, b, ks⟩ := t
  cases l with
  | false => simp [isL] at hl
  | true =>
    unfold enc
    rw [List.length_append]
    show (encs ks).length ≤ _
    omega
theorem enc_txt {t : It} (hl : isL t = false) : (txt t).length ≤ (enc t).length := by
  obtain ⟨l, b, ks⟩ := t
  cases l with
  | true => simp [isL] at hl
  | false => exact enc_text_len b ks
theorem shapeof_any (t : It) (S : Nat → Prop) (u : V3) (w : World) (h : Iv S w t u) (hz : (enc t).length ≤ 1048576) :
    Calls Try.prog 12 #[v3 u] w (PS w (shp t)) := by
  obtain ⟨a1, c1, a, n, c, hs, rfl, hk⟩ := iv_kids h
  have hiv : ∀ wx, Below w.heap.size w wx → KV (kds t) a n wx hs := fun wx hb => ⟨hk.e, Hds_below hk.h hb, fun h0 => by
    obtain ⟨g, off, e, hg, hc⟩ := hk.c h0
    refine ⟨g, off, e, Nat.lt_of_lt_of_le hg hb.size, fun j hj => ?_⟩
    obtain ⟨x1, y1, x2, m2, y2, k0, k1, k2, k3⟩ := hc j hj
    exact ⟨x1, y1, x2, m2, y2, k0, (hb.cell (p := ⟨g, off + j * 3, none⟩) hg).trans k1, (hb.cell (p := ⟨g, off + j * 3 + 1, none⟩) hg).trans k2, (hb.cell (p := ⟨g, off + j * 3 + 2, none⟩) hg).trans k3⟩⟩
  cases hl : isL t with
  | false =>
    refine so_text a1 a _ c1 n c w (shp t) ?_
    show _ = _
    unfold shp
    rw [if_pos hl]
    by_cases e : txt t = []
    · rw [if_pos e, if_pos (by rw [e]; rfl)]
    · rw [if_neg e, if_neg (fun h0 => e (List.length_eq_zero_iff.1 h0))]
  | true =>
    have hn : n ≤ 1048576 := by
      have h1 := encs_many (kds t)
      have h2 := enc_kds hl
      have h3 := hk.e
      omega
    have KT : Hid (∀ wx : World, Below w.heap.size w wx → Calls Try.prog 27 #[.agg #[.bool true, .slice a1 (txt t).length c1, .slice a n c]] wx fun e w' => ∃ x m y, e = .returned (.tuple #[.slice x m y, .bool ((kds t).all fun k => !isL k)]) ∧ (((kds t).all fun k => !isL k) = true → Ls ((kds t).map txt) (.slice x m y) w' ∧ Rf wx.heap.size (.slice x m y) ∧ m ≤ y) ∧ Below wx.heap.size wx w') :=
      fun wx hb => textsof_walk (kds t) true a1 a _ c1 n c hs wx hn (hiv wx hb) _ rfl
    have es : shp t = if ((kds t).all fun k => !isL k) = true then (if (kds t).length = 2 then ts (txt ((kds t).getD 0 It.no)) (txt ((kds t).getD 1 It.no)) else if (kds t).length = 17 then some (3, [], txt ((kds t).getD 16 It.no), ((kds t).map txt).take 16) else none) else none := by
      unfold shp ts
      rw [if_neg (by rw [hl]; decide)]
    rw [es]
    cases hR : (kds t).all fun k => !isL k with
    | false =>
      rw [if_neg (by decide)]
      exact so_lists a1 a _ c1 n c w _ _ KT hR
    | true =>
      rw [if_pos rfl]
      by_cases k2 : (kds t).length = 2
      · rw [if_pos k2]
        refine so_two a1 a _ c1 n c w _ _ KT hR (by show _ = _; rw [List.length_map, k2]) ?_ _ ?_
        · show _ ≤ _
          rw [map_txt]
          have h1 := encs_one (kds t) 0 (by omega)
          have h2 := enc_kds hl
          have h3 : isL ((kds t).getD 0 It.no) = false := by
            rw [List.all_eq_true] at hR
            have := hR ((kds t)[0]) (List.getElem_mem (by omega))
            rw [List.getD_eq_getElem?_getD, List.getElem?_eq_getElem (by omega)]
            simpa using this
          have h4 := enc_txt h3
          omega
        · show _ = _
          rw [map_txt, map_txt]
      · rw [if_neg k2]
        by_cases k3 : (kds t).length = 17
        · rw [if_pos k3, ← map_txt]
          exact so_fork a1 a _ c1 n c w _ _ KT hR (by show _ = _; rw [List.length_map, k3])
        · rw [if_neg k3]
          exact so_other a1 a _ c1 n c w _ _ KT hR (by show _ ≠ _; rw [List.length_map]; exact k2) (by show _ ≠ _; rw [List.length_map]; exact k3)
/-- What Read answers: a shape and an error. -/
def PR (w : World) (s : Shp) (z : Int) (e : Ending) (w' : World) : Prop := ∃ v, e = .returned (.tuple #[v4 v, .int .i64 z]) ∧ Sh s v w' ∧ Below w.heap.size w w' ∧ F4 v
set_option maxHeartbeats 2000000 in
set_option maxRecDepth 100000 in
theorem read_bad (a : Option Addr) (n c : Nat) (w : World) (t : It) (E : Int) (hE : Hid (E = 1))
    (KD : Hid (∀ wx : World, Below w.heap.size w wx → Calls Try.prog 11 #[.slice a n c] wx fun e w' => ∃ v, e = .returned (.tuple #[v3 v, .int .i64 E]) ∧ Iv (fun _ => True) w' t v ∧ Below wx.heap.size wx w' ∧ Fm v)) :
    Calls Try.prog 5 #[.slice a n c] w (PR w zS 1) := by
  have x0 := BS_new w
  have l0 : Below w.heap.size w (w.alloc (.cells #[.int .i64 0, .slice none 0 0, .slice none 0 0, .slice none 0 0] 25)) := (Below.refl _ _).alloc (Nat.le_refl _) _
  obtain rfl := hE.out
  go_enter Try.func5, Try.ntmps5
  go_upto_region 1 with fail
  generalize w.alloc (.cells #[.int .i64 0, .slice none 0 0, .slice none 0 0, .slice none 0 0] 25) = W0 at *
  obtain ⟨h, eh⟩ : ∃ h, h = w.heap.size := ⟨_, rfl⟩
  have EH : Hid (h = w.heap.size) := eh
  rw [← eh] at x0 ⊢
  clear eh
  go_wp2_with fail
  refine (KD.out _ l0).mono ?_
  rintro e w1 ⟨v, rfl, -, b1, lb, d1, m1, e1, d2, m2, e2, rfl⟩
  have l1 : Below w.heap.size w w1 := l0.trans (b1.mono l0.size)
  have x1 : BS h w1 := BS_gb (r := none) x0 (gb_below b1) nofun
  have lA := l1.alloc l1.size (.cells #[.bool lb, .slice d1 m1 e1, .slice d2 m2 e2] 42)
  have xA := BS_gb (r := none) x1 (World.grownBy_alloc w1 (.cells #[.bool lb, .slice d1 m1 e1, .slice d2 m2 e2] 42) none) nofun
  clear KD l0 b1 x0 x1 l1
  dsimp only [v3]
  go_upto_region 3 with fail
  generalize w1.alloc (.cells #[.bool lb, .slice d1 m1 e1, .slice d2 m2 e2] 42) = w2 at *
  go_wp2_with (refine wpList_stS rfl rfl rfl rfl xA ?_)
  intro w6 g6 z0 z1 z2 z3
  have l6 : Hid (Below w.heap.size w w6) := lA.trans ⟨g6.os, g6.tape, g6.output, g6.size, fun j hj => g6.block j (by have := lA.size; omega) (fun e => by injection e with e; have := EH.out; omega)⟩
  clear g6 xA lA
  go_wp2_with fail
  exact bodyPost_ret (v := .tuple #[.agg #[.int .i64 0, .slice none 0 0, .slice none 0 0, .slice none 0 0], .int .i64 1]) (resS2 _ _ _ h 2 3 _ _ _ _ _ rfl rfl rfl z0 z1 z2 z3) rfl ⟨(.int .i64 0, .slice none 0 0, .slice none 0 0, .slice none 0 0), rfl, ⟨rfl, Sl_nil _, Sl_nil _, Ls_nil' _⟩, l6.out, ⟨_, _, _, _, _, _, _, _, _, _, rfl⟩⟩
set_option maxHeartbeats 2000000 in
set_option maxRecDepth 100000 in
theorem read_ok' (a : Option Addr) (n c : Nat) (w : World) (t : It) (o : Option Shp) (R : Bool) (s : Shp) (z : Int) (hz : Hid (match o with | some x => (R = isS x ∧ (if R then s = x ∧ z = 0 else s = zS ∧ z = 1)) | none => s = zS ∧ z = 1))
    (KD : Hid (∀ wx : World, Below w.heap.size w wx → Calls Try.prog 11 #[.slice a n c] wx fun e w' => ∃ v, e = .returned (.tuple #[v3 v, .int .i64 0]) ∧ Iv (fun _ => True) w' t v ∧ Below wx.heap.size wx w' ∧ Fm v))
    (KS : Hid (∀ (u : V3) (wx : World), Iv (fun _ => True) wx t u → Calls Try.prog 12 #[v3 u] wx (PS wx o)))
    (KI : Hid (∀ (x : Shp) (v : V4) (wx : World), o = some x → Sh x v wx → Calls Try.prog 13 #[v4 v] wx fun e w' => e = .returned (.bool R) ∧ Below wx.heap.size wx w')) :
    Calls Try.prog 5 #[.slice a n c] w (PR w s z) := by
  have x0 := BS_new w
  have l0 : Below w.heap.size w (w.alloc (.cells #[.int .i64 0, .slice none 0 0, .slice none 0 0, .slice none 0 0] 25)) := (Below.refl _ _).alloc (Nat.le_refl _) _
  go_enter Try.func5, Try.ntmps5
  go_upto_region 1 with fail
  generalize w.alloc (.cells #[.int .i64 0, .slice none 0 0, .slice none 0 0, .slice none 0 0] 25) = W0 at *
  obtain ⟨h, eh⟩ : ∃ h, h = w.heap.size := ⟨_, rfl⟩
  have EH : Hid (h = w.heap.size) := eh
  rw [← eh] at x0 ⊢
  clear eh
  go_wp2_with fail
  refine (KD.out _ l0).mono ?_
  rintro e w1 ⟨v, rfl, iv, b1, lb, d1, m1, e1, d2, m2, e2, rfl⟩
  have l1 : Below w.heap.size w w1 := l0.trans (b1.mono l0.size)
  have x1 : BS h w1 := BS_gb (r := none) x0 (gb_below b1) nofun
  have bA : Below w1.heap.size w1 (w1.alloc (.cells #[.bool lb, .slice d1 m1 e1, .slice d2 m2 e2] 42)) := (Below.refl _ _).alloc (Nat.le_refl _) _
  have lA := l1.trans (bA.mono l1.size)
  have xA := BS_gb (r := none) x1 (gb_below bA) nofun
  have KS2 : Hid _ := KS.out (.bool lb, .slice d1 m1 e1, .slice d2 m2 e2) _ (Iv_below iv bA)
  have HA := heap_alloc_new w1 (.cells #[.bool lb, .slice d1 m1 e1, .slice d2 m2 e2] 42)
  have p0 : (w1.alloc (.cells #[.bool lb, .slice d1 m1 e1, .slice d2 m2 e2] 42)).cell? ⟨w1.heap.size, 0, none⟩ = some (.bool lb) := by simp only [World.cell?, HA]; rfl
  have p1 : (w1.alloc (.cells #[.bool lb, .slice d1 m1 e1, .slice d2 m2 e2] 42)).cell? ⟨w1.heap.size, 1, none⟩ = some (.slice d1 m1 e1) := by simp only [World.cell?, HA]; rfl
  have p2 : (w1.alloc (.cells #[.bool lb, .slice d1 m1 e1, .slice d2 m2 e2] 42)).cell? ⟨w1.heap.size, 2, none⟩ = some (.slice d2 m2 e2) := by simp only [World.cell?, HA]; rfl
  clear KD l0 b1 x0 x1 l1 KS iv bA HA
  dsimp only [v3] at KS2 ⊢
  go_upto_region 4 with fail
  generalize w1.alloc (.cells #[.bool lb, .slice d1 m1 e1, .slice d2 m2 e2] 42) = w2 at *
  generalize w1.heap.size = g1 at *
  have HH : Hid (h < w2.heap.size) := xA.hi
  go_wp2_with fail
  refine Calls.mono KS2.out ?_
  rintro e w3 ⟨v, rfl, hv, b3, k, f1, f2, f3, f4, f5, f6, f7, f8, f9, rfl⟩
  have l3 : Below w.heap.size w w3 := lA.trans (b3.mono lA.size)
  have x3 : BS h w3 := BS_gb (r := none) xA (gb_below b3) nofun
  have bB : Below w3.heap.size w3 (w3.alloc (.cells #[.int .i64 k, .slice f1 f2 f3, .slice f4 f5 f6, .slice f7 f8 f9] 25)) := (Below.refl _ _).alloc (Nat.le_refl _) _
  have lB := l3.trans (bB.mono l3.size)
  have xB := BS_gb (r := none) x3 (gb_below bB) nofun
  have HB := heap_alloc_new w3 (.cells #[.int .i64 k, .slice f1 f2 f3, .slice f4 f5 f6, .slice f7 f8 f9] 25)
  have s0 : (w3.alloc (.cells #[.int .i64 k, .slice f1 f2 f3, .slice f4 f5 f6, .slice f7 f8 f9] 25)).cell? ⟨w3.heap.size, 0, none⟩ = some (.int .i64 k) := by simp only [World.cell?, HB]; rfl
  have s1 : (w3.alloc (.cells #[.int .i64 k, .slice f1 f2 f3, .slice f4 f5 f6, .slice f7 f8 f9] 25)).cell? ⟨w3.heap.size, 1, none⟩ = some (.slice f1 f2 f3) := by simp only [World.cell?, HB]; rfl
  have s2 : (w3.alloc (.cells #[.int .i64 k, .slice f1 f2 f3, .slice f4 f5 f6, .slice f7 f8 f9] 25)).cell? ⟨w3.heap.size, 2, none⟩ = some (.slice f4 f5 f6) := by simp only [World.cell?, HB]; rfl
  have s3 : (w3.alloc (.cells #[.int .i64 k, .slice f1 f2 f3, .slice f4 f5 f6, .slice f7 f8 f9] 25)).cell? ⟨w3.heap.size, 3, none⟩ = some (.slice f7 f8 f9) := by simp only [World.cell?, HB]; rfl
  have hw4 : w3.heap.size < (w3.alloc (.cells #[.int .i64 k, .slice f1 f2 f3, .slice f4 f5 f6, .slice f7 f8 f9] 25)).heap.size := by simp
  have HV : Hid (∀ s, o = some s → Sh s (.int .i64 k, .slice f1 f2 f3, .slice f4 f5 f6, .slice f7 f8 f9) (w3.alloc (.cells #[.int .i64 k, .slice f1 f2 f3, .slice f4 f5 f6, .slice f7 f8 f9] 25)) ∧ Rf w2.heap.size (.slice f7 f8 f9)) := fun s hs => ⟨Sh_below (hv s hs).1 bB, (hv s hs).2⟩
  clear b3 lA xA KS2 hv l3 x3 bB HB p0 p1 p2
  dsimp only [v4]
  go_upto_region 5 with fail
  generalize w3.alloc (.cells #[.int .i64 k, .slice f1 f2 f3, .slice f4 f5 f6, .slice f7 f8 f9] 25) = w4 at *
  generalize w3.heap.size = g3 at *
  cases o with
  | none =>
    obtain ⟨rfl, rfl⟩ := hz.out
    have e0 : (none : Option Shp).isSome = false := rfl
    rw [e0]
    clear HV s0 s1 s2 s3 KI hz
    go_upto_region 6 with fail
    go_wp2_with (refine wpList_stS rfl rfl rfl rfl xB ?_)
    intro w6 g6 z0 z1 z2 z3
    have l6 : Hid (Below w.heap.size w w6) := lB.trans ⟨g6.os, g6.tape, g6.output, g6.size, fun j hj => g6.block j (by have := lB.size; omega) (fun e => by injection e with e; have := EH.out; omega)⟩
    clear g6 xB lB
    go_wp2_with fail
    exact bodyPost_ret (v := .tuple #[.agg #[.int .i64 0, .slice none 0 0, .slice none 0 0, .slice none 0 0], .int .i64 1]) (resS2 _ _ _ h 2 3 _ _ _ _ _ rfl rfl rfl z0 z1 z2 z3) rfl ⟨(.int .i64 0, .slice none 0 0, .slice none 0 0, .slice none 0 0), rfl, ⟨rfl, Sl_nil _, Sl_nil _, Ls_nil' _⟩, l6.out, ⟨_, _, _, _, _, _, _, _, _, _, rfl⟩⟩
  | some x =>
    have e0 : (some x : Option Shp).isSome = true := rfl
    rw [e0]
    have KI2 : Hid _ := KI.out x (.int .i64 k, .slice f1 f2 f3, .slice f4 f5 f6, .slice f7 f8 f9) w4 rfl (HV.out x rfl).1
    clear KI
    dsimp only [v4] at KI2
    go_wp2_with fail
    refine Calls.mono KI2.out ?_
    rintro e w5 ⟨rfl, b5⟩
    have l5 : Below w.heap.size w w5 := lB.trans (b5.mono lB.size)
    have x5 : BS h w5 := BS_gb (r := none) xB (gb_below b5) nofun
    have r0 := (b5.cell (p := ⟨g3, 0, none⟩) hw4).trans s0
    have r1 := (b5.cell (p := ⟨g3, 1, none⟩) hw4).trans s1
    have r2 := (b5.cell (p := ⟨g3, 2, none⟩) hw4).trans s2
    have r3 := (b5.cell (p := ⟨g3, 3, none⟩) hw4).trans s3
    have HV5 : Hid (Sh x (.int .i64 k, .slice f1 f2 f3, .slice f4 f5 f6, .slice f7 f8 f9) w5 ∧ Rf w2.heap.size (.slice f7 f8 f9)) := ⟨Sh_below (HV.out x rfl).1 b5, (HV.out x rfl).2⟩
    clear HV b5 KI2 lB xB s0 s1 s2 s3 hw4
    obtain ⟨-, hz2⟩ := hz.out
    clear hz
    cases R with
    | false =>
      obtain ⟨rfl, rfl⟩ := hz2
      clear HV5 r0 r1 r2 r3
      go_upto_region 6 with fail
      go_wp2_with (refine wpList_stS rfl rfl rfl rfl x5 ?_)
      intro w6 g6 z0 z1 z2 z3
      have l6 : Hid (Below w.heap.size w w6) := l5.trans ⟨g6.os, g6.tape, g6.output, g6.size, fun j hj => g6.block j (by have := l5.size; omega) (fun e => by injection e with e; have := EH.out; omega)⟩
      clear g6 x5 l5
      go_wp2_with fail
      exact bodyPost_ret (v := .tuple #[.agg #[.int .i64 0, .slice none 0 0, .slice none 0 0, .slice none 0 0], .int .i64 1]) (resS2 _ _ _ h 2 3 _ _ _ _ _ rfl rfl rfl z0 z1 z2 z3) rfl ⟨(.int .i64 0, .slice none 0 0, .slice none 0 0, .slice none 0 0), rfl, ⟨rfl, Sl_nil _, Sl_nil _, Ls_nil' _⟩, l6.out, ⟨_, _, _, _, _, _, _, _, _, _, rfl⟩⟩
    | true =>
      obtain ⟨rfl, rfl⟩ := hz2
      go_upto_region 7 with fail
      go_wp2_with (refine wpList_stS rfl rfl rfl rfl x5 ?_)
      intro w6 g6 z0 z1 z2 z3
      have l6 : Hid (Below w.heap.size w w6) := l5.trans ⟨g6.os, g6.tape, g6.output, g6.size, fun j hj => g6.block j (by have := l5.size; omega) (fun e => by injection e with e; have := EH.out; omega)⟩
      have S6 : Hid (Sh s (.int .i64 k, .slice f1 f2 f3, .slice f4 f5 f6, .slice f7 f8 f9) w6) := Sh_gb HV5.out.1 (BS_nb x5) (fun e => by have := HV5.out.2 _ e; have := HH.out; omega) g6
      clear g6 x5 l5 HV5 r0 r1 r2 r3
      go_wp2_with fail
      exact bodyPost_ret (v := .tuple #[.agg #[.int .i64 k, .slice f1 f2 f3, .slice f4 f5 f6, .slice f7 f8 f9], .int .i64 0]) (resS2 _ _ _ h 2 3 _ _ _ _ _ rfl rfl rfl z0 z1 z2 z3) rfl ⟨(.int .i64 k, .slice f1 f2 f3, .slice f4 f5 f6, .slice f7 f8 f9), rfl, S6.out, l6.out, ⟨_, _, _, _, _, _, _, _, _, _, rfl⟩⟩
end Rs
end Go.Proofs.Ytcgimjlmihaegaa
/- lampbearerref.HRead. -/
namespace Go.Proofs.Ytcgimjlmihaegaa
namespace Rs
open Nb Sp Pk Go.RowKit
theorem find_at {α : Type} (p : α → Bool) (d : α) : ∀ (l : List α) (j : Nat), j < l.length → (∀ i, i < j → p (l.getD i d) = false) → p (l.getD j d) = true → l.find? p = some (l.getD j d)
  | [], j, h, _, _ => absurd h (by simp)
  | x :: r, 0, _, _, h => List.find?_cons_of_pos h
  | x :: r, j + 1, hj, hn, h => by
    rw [List.find?_cons_of_neg (by have := hn 0 (by omega); rw [show (x :: r).getD 0 d = x from rfl] at this; rw [this]; decide)]
    exact find_at p d r j (by simpa using hj) (fun i hi => hn (i + 1) (by omega)) h
theorem find_no {α : Type} (p : α → Bool) (d : α) (l : List α) (h : ∀ i, i < l.length → p (l.getD i d) = false) : l.find? p = none := by
  rw [List.find?_eq_none]
  intro x hx
  obtain ⟨i, hi, rfl⟩ := List.getElem_of_mem hx
  have := h i hi
  rw [List.getD_eq_getElem?_getD, List.getElem?_eq_getElem hi] at this
  have e : p l[i] = false := this
  rw [e]
  decide
/-- What is found. -/
def fnd (b : List UInt8) (ss : List Shp) : Shp × Int := match ss.find? (fits b) with | some s => (s, 0) | none => (zS, 1)
theorem own_cellz {B e z n : Nat} {v : Value} {xs : List Value} {w : World} (h : w.ownsRow B e z v n xs) (h0 : 0 < n) : ∃ g cap, v = .slice (some ⟨g, 0, none⟩) n cap ∧ B ≤ g ∧ g < w.heap.size ∧ ∀ j u, xs[j]? = some u → w.cell? ⟨g, j, none⟩ = some u := by
  have hl := h.1
  rcases h.2 with ⟨h3, h4⟩ | ⟨g, cap, cur, h3, h4, h5, h6, h7, h8, h9⟩
  · omega
  · refine ⟨g, cap, h3, h4, Pk.lt_of_heap h5, fun j u hj => ?_⟩
    have hj' := (List.getElem?_eq_some_iff.1 hj).1
    have e : w.cell? ⟨g, j, none⟩ = cur[j]? := by
      simp only [World.cell?, h5]
      exact if_neg (by simp)
    rw [e, ← Array.getElem?_toList, ← hj, ← h9, List.getElem?_take]
    exact (if_pos (by omega)).symm
theorem infoS4 : (Try.prog.info? 25).map (fun i => (i.zero, i.size, i.bytes)) = some (some (.agg #[.int .i64 0, .slice none 0 0, .slice none 0 0, .slice none 0 0]), 4, 80) := by kernel_rfl
set_option maxRecDepth 100000 in
theorem app_sh {B g : Nat} {v : Value} {xs : List Value} {w : World} (ty : TypeId) (u0 u1 u2 u3 : Value) (h0 : u0.oneCell' = true) (h1 : u1.oneCell' = true) (h2 : u2.oneCell' = true) (h3 : u3.oneCell' = true) (ho : w.ownsRow B 25 4 v 1 xs) (k0 : w.cell? ⟨g, 0, none⟩ = some u0) (k1 : w.cell? ⟨g, 1, none⟩ = some u1) (k2 : w.cell? ⟨g, 2, none⟩ = some u2) (k3 : w.cell? ⟨g, 3, none⟩ = some u3) (hB : B ≤ w.heap.size) :
    ∃ G cap w', (Builtin.append_ #[48, 48] ty #[v, .slice (some ⟨g, 0, none⟩) 1 1]).run Try.prog w = .ok (.slice (some ⟨G, 0, none⟩) 2 cap) w' ∧ w'.ownsRow B 25 4 (.slice (some ⟨G, 0, none⟩) 2 cap) 2 (xs ++ [u0, u1, u2, u3]) ∧ w.grownBy w' v.ownBlock := by
  obtain ⟨i0, hi, hz0, hz1, hz2⟩ := info_parts infoS4
  obtain ⟨G, cap, w', hr, ho', hgr, _, _⟩ := run_append_lies (P := Try.prog) w 48 ty B 25 i0 (.agg #[.int .i64 0, .slice none 0 0, .slice none 0 0, .slice none 0 0]) 4 80 Try.underlying48 hi hz0 hz1 hz2 rfl (by decide) v 1 xs ho ⟨g, 0, none⟩ 1 1 [u0, u1, u2, u3] rfl
    (fun j u hj => by
      rw [add_lit, Nat.zero_add]
      match j, hj with
      | 0, hj => simp at hj; rw [← hj]; exact k0
      | 1, hj => simp at hj; rw [← hj]; exact k1
      | 2, hj => simp at hj; rw [← hj]; exact k2
      | 3, hj => simp at hj; rw [← hj]; exact k3
      | n + 4, hj => simp at hj) (fun u hu => by
        simp only [List.mem_cons, List.not_mem_nil, or_false] at hu
        rcases hu with rfl | rfl | rfl | rfl <;> assumption) (by decide) (by unfold maxLen; omega) (by omega) hB _ rfl
  exact ⟨G, cap, w', hr, ho', hgr⟩
theorem own_t (w : World) (B : Nat) (hB : B ≤ w.heap.size) : (w.alloc (.cells #[.int .i64 0, .slice none 0 0, .slice none 0 0, .slice none 0 0] 25)).ownsRow B 25 4 (.slice (some ⟨w.heap.size, 0, none⟩) 1 1) 1 [.int .i64 0, .slice none 0 0, .slice none 0 0, .slice none 0 0] :=
  ⟨rfl, .inr ⟨w.heap.size, 1, #[.int .i64 0, .slice none 0 0, .slice none 0 0, .slice none 0 0], rfl, hB, heap_alloc_new _ _, Nat.le_refl _, by unfold maxLen; omega, rfl, rfl⟩⟩
set_option maxHeartbeats 8000000 in
set_option maxRecDepth 100000 in
theorem hr_other (b : List UInt8) (a : Option Addr) (n c : Nat) (w : World) (ks : List It) (ss : List Shp) (hb : Hid (∀ wx, Below w.heap.size w wx → Sl b (.slice a n c) wx))
    (KD : Hid (∀ wx : World, Below w.heap.size w wx → Calls Try.prog 14 #[.slice a n c] wx fun e w' => ∃ lb a1 n1 c1 a2 n2 c2 hs, e = .returned (.tuple #[.agg #[.bool lb, .slice a1 n1 c1, .slice a2 n2 c2], .int .i64 0]) ∧ KV ks a2 n2 w' hs ∧ Below wx.heap.size wx w')) (hz : Hid (ks.length ≤ 1048576))
    (KH : Hid (∀ (s : Shp) (x : V4) (wx : World), s ∈ ss → Sh s x wx → Calls Try.prog 16 #[v4 x] wx fun e w' => ∃ v, e = .returned (.tuple #[v, .int .i64 (he s)]) ∧ Sl (hc s) v w' ∧ Below wx.heap.size wx w')) (hss : Hid (ss = [zS])) (h2 : Hid (ks.length ≠ 2)) (h17 : Hid (ks.length ≠ 17)) :
    Calls Try.prog 6 #[.slice a n c] w (PR w (fnd b ss).1 (fnd b ss).2) := by
  have x0 := BS_new w
  have l0 : Below w.heap.size w (w.alloc (.cells #[.int .i64 0, .slice none 0 0, .slice none 0 0, .slice none 0 0] 25)) := (Below.refl _ _).alloc (Nat.le_refl _) _
  go_enter Try.func6, Try.ntmps6
  go_upto_region 1 with fail
  generalize w.alloc (.cells #[.int .i64 0, .slice none 0 0, .slice none 0 0, .slice none 0 0] 25) = W0 at *
  obtain ⟨h, eh⟩ : ∃ h, h = w.heap.size := ⟨_, rfl⟩
  have EH : Hid (h = w.heap.size) := eh
  rw [← eh] at x0 ⊢
  clear eh
  go_wp2_with fail
  refine (KD.out _ l0).mono ?_
  rintro e w1 ⟨lb, b1, n1, c1, a2, n2, c2, hs, rfl, hk, bb⟩
  have l1 : Below w.heap.size w w1 := l0.trans (bb.mono l0.size)
  have x1 : BS h w1 := BS_gb (r := none) x0 (gb_below bb) nofun
  have bA : Below w1.heap.size w1 (w1.alloc (.cells #[.bool lb, .slice b1 n1 c1, .slice a2 n2 c2] 42)) := (Below.refl _ _).alloc (Nat.le_refl _) _
  have HL2 : Hid (Below w.heap.size w (w1.alloc (.cells #[.bool lb, .slice b1 n1 c1, .slice a2 n2 c2] 42))) := l1.trans (bA.mono l1.size)
  have HX2 : Hid (BS h (w1.alloc (.cells #[.bool lb, .slice b1 n1 c1, .slice a2 n2 c2] 42))) := BS_gb (r := none) x1 (gb_below bA) nofun
  have HK : Hid (KV ks a2 n2 w1 hs) := hk
  have BA : Hid (Below w1.heap.size w1 (w1.alloc (.cells #[.bool lb, .slice b1 n1 c1, .slice a2 n2 c2] 42))) := bA
  clear KD l0 bb x0 x1 l1 hk bA
  have HN : Hid (n2 = ks.length) := HK.out.e
  have HLN : Hid (hs.length = n2) := by show _ = _; rw [HK.out.h.l, List.length_map]; exact HN.out.symm
  go_wp2_with fail
  generalize w1.alloc (.cells #[.bool lb, .slice b1 n1 c1, .slice a2 n2 c2] 42) = w2 at *
  go_loopw [6, 28] (fun v i wr => ∃ k : Nat, k ≤ n2 ∧ i = .int .i64 (k : Int) ∧ Hid (wr.ownsRow w2.heap.size 22 1 v (hs.take k).length (hs.take k) ∧ Below w2.heap.size w2 wr)) (fun _ i _ => ((n2 : Int) - intOf i).toNat)
  case atStart => exact ⟨0, Nat.zero_le _, rfl, World.ownsRow_nil _ _ _ _, Below.refl _ _⟩
  case round =>
    obtain ⟨k, hk1, rfl, HI⟩ := hrel
    obtain ⟨ak, nk, ck, rfl⟩ := own_form HI.out.1
    have BW : Hid (Below w1.heap.size w1 wr) := BA.out.trans (HI.out.2.mono BA.out.size)
    by_cases h1 : k < n2
    · have d0 : (k : Int) < (n2 : Int) := by omega
      have d1 : (0 : Int) ≤ (k : Int) := by omega
      have hw := Nb.stp k (by have := hz.out; have := HN.out; show _ ≤ _; omega)
      obtain ⟨g, off, rfl, hg, hcc⟩ := HK.out.c (by omega)
      obtain ⟨x1, y1, x2, m2, y2, e1, k0, k1, k2⟩ := hcc k h1
      have r0 := (BW.out.cell (p := ⟨g, off + k * 3, none⟩) hg).trans k0
      have r1 := (BW.out.cell (p := ⟨g, off + k * 3 + 1, none⟩) hg).trans k1
      have r2 := (BW.out.cell (p := ⟨g, off + k * 3 + 2, none⟩) hg).trans k2
      have HK1 : Hid (k < n2) := h1
      have hkh : k < hs.length := by have := HLN.out; omega
      have HTK : Hid (hs.take (k + 1) = hs.take k ++ [.slice x1 (txt (ks.getD k It.no)).length y1]) := by
        show _ = _
        rw [List.take_add_one, List.getElem?_eq_getElem hkh]
        have : hs[k] = .slice x1 (txt (ks.getD k It.no)).length y1 := by rw [← e1, List.getD_eq_getElem?_getD, List.getElem?_eq_getElem hkh]; rfl
        rw [this]
        rfl
      clear hg hcc k0 k1 k2 e1 hkh BW
      generalize (txt (ks.getD k It.no)).length = mk at *
      generalize isL (ks.getD k It.no) = lk at *
      have bA : Below wr.heap.size wr (wr.alloc (.cells #[.bool lk, .slice x1 mk y1, .slice x2 m2 y2] 42)) := (Below.refl _ _).alloc (Nat.le_refl _) _
      have hs1 : (wr.alloc (.cells #[.bool lk, .slice x1 mk y1, .slice x2 m2 y2] 42)).heap.size = wr.heap.size + 1 := by simp
      have bB : Below wr.heap.size wr ((wr.alloc (.cells #[.bool lk, .slice x1 mk y1, .slice x2 m2 y2] 42)).alloc (.cells #[.slice x1 mk y1] 22)) := bA.alloc (by omega) _
      have hnw := heap_alloc_new (wr.alloc (.cells #[.bool lk, .slice x1 mk y1, .slice x2 m2 y2] 42)) (.cells #[.slice x1 mk y1] 22)
      rw [hs1] at hnw
      have oB : ((wr.alloc (.cells #[.bool lk, .slice x1 mk y1, .slice x2 m2 y2] 42)).alloc (.cells #[.slice x1 mk y1] 22)).ownsRow w2.heap.size 22 1 (.slice ak nk ck) (hs.take k).length (hs.take k) := (HI.out.1.alloc _).alloc _
      have vB : Vl [.slice x1 mk y1] (.slice (some ⟨wr.heap.size + 1, 0, none⟩) 1 1) ((wr.alloc (.cells #[.bool lk, .slice x1 mk y1, .slice x2 m2 y2] 42)).alloc (.cells #[.slice x1 mk y1] 22)) := ⟨_, 1, rfl, fun _ => ⟨_, 0, rfl, by simp, fun j hj => by
        have : j = 0 := by simp at hj; omega
        subst this
        simp only [World.cell?, hnw]
        rfl⟩⟩
      have hbw := HI.out.2.size
      obtain ⟨v', w', hap, ho', hb'⟩ := appv_r (ys := [.slice x1 mk y1]) 23 oB vB (fun u hu => by rw [List.mem_singleton.1 hu]; rfl) (by have := bB.size; omega) (by rw [List.length_take]; have := hz.out; have := HN.out; simp; omega)
      rw [← HTK.out] at ho'
      obtain ⟨ak2, nk2, ck2, rfl⟩ := own_form ho'
      have HI7 : Hid (w'.ownsRow w2.heap.size 22 1 (.slice ak2 nk2 ck2) (hs.take (k + 1)).length (hs.take (k + 1)) ∧ Below w2.heap.size w2 w') := ⟨ho', (HI.out.2.trans (bB.mono hbw)).trans hb'⟩
      clear HI HTK bA bB hs1 hnw oB vB hbw ho' hb'
      go_wp2_with (at_builtin; refine wpList_apw rfl rfl rfl rfl hap ?_)
      have hw := hw.out
      go_roundw
      case rel => exact ⟨k + 1, HK1.out, Nb.step_v k _ hw, HI7⟩
      case measure => exact Nb.msr k n2 HK1.out _ hw
    · have hkl : k = n2 := by omega
      have ex : hs.take k = hs := by rw [hkl, ← HLN.out, List.take_length]
      have ho := HI.out.1
      rw [ex] at ho
      have HLS : Hid (Ls (ks.map txt) (.slice ak nk ck) wr) := own_ls ho (Hds_below HK.out.h BW.out)
      have HRF : Hid (Rf w2.heap.size (.slice ak nk ck)) := rf_own ho
      have HCP : Hid (nk ≤ ck) := own_cap ho
      have HNK : Hid (nk = ks.length) := by
        obtain ⟨_, _, e⟩ := own_len ho
        injection e with _ e _
        show _ = _
        rw [e, HLN.out]; exact HN.out
      have HLR : Hid (Below w.heap.size w wr) := HL2.out.trans (HI.out.2.mono HL2.out.size)
      have HXR : Hid (BS h wr) := BS_gb (r := none) HX2.out (gb_below HI.out.2) nofun
      have HHW : Hid (h < w2.heap.size) := HX2.out.hi
      have HWR : Hid (w2.heap.size ≤ wr.heap.size) := HI.out.2.size
      clear HI BW ho ex h1 hk1 HK HL2 HX2 BA HN HLN
      subst hkl
      have t2 : ((nk : Int) == 2) = false := beq_eq_false_iff_ne.2 (by have := h2.out; have := HNK.out; omega)
      have t17 : ((nk : Int) == 17) = false := beq_eq_false_iff_ne.2 (by have := h17.out; have := HNK.out; omega)
      have HL8 : Hid (Below w.heap.size w (wr.alloc (.cells #[.int .i64 0, .slice none 0 0, .slice none 0 0, .slice none 0 0] 25))) := HLR.out.alloc HLR.out.size _
      have HX8 : Hid (BS h (wr.alloc (.cells #[.int .i64 0, .slice none 0 0, .slice none 0 0, .slice none 0 0] 25))) := BS_gb (r := none) HXR.out (World.grownBy_alloc wr _ none) nofun
      have oT := own_t wr wr.heap.size (Nat.le_refl _)
      obtain ⟨G, hG⟩ : ∃ G, G = wr.heap.size := ⟨_, rfl⟩
      have HCC : Hid (G < (wr.alloc (.cells #[.int .i64 0, .slice none 0 0, .slice none 0 0, .slice none 0 0] 25)).heap.size ∧ ∀ j, j < 1 → ∃ k p1 p2 p3 p4 p5 p6 p7 p8 p9, Sh (ss.getD j zS) (.int .i64 k, .slice p1 p2 p3, .slice p4 p5 p6, .slice p7 p8 p9) (wr.alloc (.cells #[.int .i64 0, .slice none 0 0, .slice none 0 0, .slice none 0 0] 25)) ∧ (Value.slice p7 p8 p9).ownBlock ≠ some h ∧ (wr.alloc (.cells #[.int .i64 0, .slice none 0 0, .slice none 0 0, .slice none 0 0] 25)).cell? ⟨G, j * 4, none⟩ = some (.int .i64 k) ∧ (wr.alloc (.cells #[.int .i64 0, .slice none 0 0, .slice none 0 0, .slice none 0 0] 25)).cell? ⟨G, j * 4 + 1, none⟩ = some (.slice p1 p2 p3) ∧ (wr.alloc (.cells #[.int .i64 0, .slice none 0 0, .slice none 0 0, .slice none 0 0] 25)).cell? ⟨G, j * 4 + 2, none⟩ = some (.slice p4 p5 p6) ∧ (wr.alloc (.cells #[.int .i64 0, .slice none 0 0, .slice none 0 0, .slice none 0 0] 25)).cell? ⟨G, j * 4 + 3, none⟩ = some (.slice p7 p8 p9)) := by
        obtain ⟨gT, cT, eT, _, _, hcT⟩ := own_cellz oT (by decide)
        injection eT with eT _ _
        injection eT with eT
        injection eT with eT _ _
        rw [hG]
        refine ⟨by simp, fun j hj => ?_⟩
        have : j = 0 := by omega
        subst this
        rw [eT]
        exact ⟨0, none, 0, 0, none, 0, 0, none, 0, 0, by rw [hss.out]; exact ⟨rfl, Sl_nil _, Sl_nil _, Ls_nil' _⟩, nofun, hcT 0 _ rfl, hcT 1 _ rfl, hcT 2 _ rfl, hcT 3 _ rfl⟩
      clear oT HLS HRF HCP HNK HLR HXR HHW HWR
      have hlen : Hid (ss.length = 1) := by show _ = _; rw [hss.out]; rfl
      go_upto_region 18 with fail
      generalize wr.alloc (.cells #[.int .i64 0, .slice none 0 0, .slice none 0 0, .slice none 0 0] 25) = w8 at *
      rw [← hG]
      clear hG
      have HB8 : Hid (∀ wx, Below w8.heap.size w8 wx → Sl b (.slice a n c) wx) := fun wx hbx => hb.out wx (HL8.out.trans (hbx.mono HL8.out.size))
      clear hb
      go_wp2_with fail
      go_loopw [81] (fun s wx => ∃ j : Nat, j ≤ 1 ∧ s = .int .i64 (j : Int) ∧ Hid ((∀ i, i < j → fits b (ss.getD i zS) = false) ∧ Below w8.heap.size w8 wx)) (fun s _ => ((1 : Int) - intOf s).toNat)
      case atStart => exact ⟨0, Nat.zero_le _, rfl, fun i hi => absurd hi (by omega), Below.refl _ _⟩
      case round =>
        rename World => wx
        obtain ⟨j, hj, rfl, HJ⟩ := hrel
        by_cases j1 : j < 1
        · have d0 : (j : Int) < 1 := by omega
          have d1 : (0 : Int) ≤ (j : Int) := by omega
          have hw := Nb.stp j (by show _ ≤ _; omega)
          obtain ⟨k, p1, p2, p3, p4, p5, p6, p7, p8, p9, sh, ob, y0, y1, y2, y3⟩ := HCC.out.2 j j1
          have r0 := (HJ.out.2.cell (p := ⟨G, j * 4, none⟩) HCC.out.1).trans y0
          have r1 := (HJ.out.2.cell (p := ⟨G, j * 4 + 1, none⟩) HCC.out.1).trans y1
          have r2 := (HJ.out.2.cell (p := ⟨G, j * 4 + 2, none⟩) HCC.out.1).trans y2
          have r3 := (HJ.out.2.cell (p := ⟨G, j * 4 + 3, none⟩) HCC.out.1).trans y3
          have bA : Below wx.heap.size wx (wx.alloc (.cells #[.int .i64 k, .slice p1 p2 p3, .slice p4 p5 p6, .slice p7 p8 p9] 25)) := (Below.refl _ _).alloc (Nat.le_refl _) _
          have b8 := HJ.out.2.trans (bA.mono HJ.out.2.size)
          obtain ⟨s, hs'⟩ : ∃ s, s = ss.getD j zS := ⟨_, rfl⟩
          have HS : Hid (s = ss.getD j zS) := hs'
          rw [← hs'] at sh
          have hjs : j < ss.length := by rw [hlen.out]; exact j1
          have hmem : s ∈ ss := by rw [hs', List.getD_eq_getElem?_getD, List.getElem?_eq_getElem hjs]; exact List.getElem_mem _
          have HJL : Hid (j < ss.length) := hjs
          have shA := Sh_below (Sh_below sh HJ.out.2) bA
          have KC : Hid _ := KH.out s (.int .i64 k, .slice p1 p2 p3, .slice p4 p5 p6, .slice p7 p8 p9) _ hmem shA
          have HSA : Hid (Sh s (.int .i64 k, .slice p1 p2 p3, .slice p4 p5 p6, .slice p7 p8 p9) (wx.alloc (.cells #[.int .i64 k, .slice p1 p2 p3, .slice p4 p5 p6, .slice p7 p8 p9] 25))) := shA
          have HOB : Hid ((Value.slice p7 p8 p9).ownBlock ≠ some h) := ob
          have HA := heap_alloc_new wx (.cells #[.int .i64 k, .slice p1 p2 p3, .slice p4 p5 p6, .slice p7 p8 p9] 25)
          have q0 : (wx.alloc (.cells #[.int .i64 k, .slice p1 p2 p3, .slice p4 p5 p6, .slice p7 p8 p9] 25)).cell? ⟨wx.heap.size, 0, none⟩ = some (.int .i64 k) := by simp only [World.cell?, HA]; rfl
          have q1 : (wx.alloc (.cells #[.int .i64 k, .slice p1 p2 p3, .slice p4 p5 p6, .slice p7 p8 p9] 25)).cell? ⟨wx.heap.size, 1, none⟩ = some (.slice p1 p2 p3) := by simp only [World.cell?, HA]; rfl
          have q2 : (wx.alloc (.cells #[.int .i64 k, .slice p1 p2 p3, .slice p4 p5 p6, .slice p7 p8 p9] 25)).cell? ⟨wx.heap.size, 2, none⟩ = some (.slice p4 p5 p6) := by simp only [World.cell?, HA]; rfl
          have q3 : (wx.alloc (.cells #[.int .i64 k, .slice p1 p2 p3, .slice p4 p5 p6, .slice p7 p8 p9] 25)).cell? ⟨wx.heap.size, 3, none⟩ = some (.slice p7 p8 p9) := by simp only [World.cell?, HA]; rfl
          have hwA : wx.heap.size < (wx.alloc (.cells #[.int .i64 k, .slice p1 p2 p3, .slice p4 p5 p6, .slice p7 p8 p9] 25)).heap.size := by simp
          have HB9 : Hid (Below w8.heap.size w8 (wx.alloc (.cells #[.int .i64 k, .slice p1 p2 p3, .slice p4 p5 p6, .slice p7 p8 p9] 25))) := b8
          have HFN : Hid (∀ i, i < j → fits b (ss.getD i zS) = false) := HJ.out.1
          clear sh ob y0 y1 y2 y3 bA b8 hs' hjs hmem shA HA HJ
          dsimp only [v4] at KC
          go_upto_region 21 with fail
          generalize wx.alloc (.cells #[.int .i64 k, .slice p1 p2 p3, .slice p4 p5 p6, .slice p7 p8 p9] 25) = w9 at *
          generalize wx.heap.size = g9 at *
          clear r0 r1 r2 r3
          go_wp2_with fail
          refine Calls.mono KC.out ?_
          rintro e w10 ⟨v, rfl, sc, bc⟩
          obtain ⟨va, vc, rfl⟩ := Sl_fm sc
          have HB10 : Hid (Below w8.heap.size w8 w10) := HB9.out.trans (bc.mono HB9.out.size)
          have HS10 : Hid (Sh s (.int .i64 k, .slice p1 p2 p3, .slice p4 p5 p6, .slice p7 p8 p9) w10) := Sh_below HSA.out bc
          have t0 := (bc.cell (p := ⟨g9, 0, none⟩) hwA).trans q0
          have t1 := (bc.cell (p := ⟨g9, 1, none⟩) hwA).trans q1
          have t2 := (bc.cell (p := ⟨g9, 2, none⟩) hwA).trans q2
          have t3 := (bc.cell (p := ⟨g9, 3, none⟩) hwA).trans q3
          have cv1 := Sl_bst sc
          have cv2 := Sl_bst (HB8.out w10 HB10.out)
          have HFT : fits b s = false → Hid (∀ i, i < j + 1 → fits b (ss.getD i zS) = false) := fun e i hi => by
            by_cases e2 : i = j
            · subst e2; rw [← HS.out]; exact e
            · exact HFN.out i (by omega)
          clear bc sc KC HSA HB9 q0 q1 q2 q3 hwA
          cases hI : isS s with
          | false =>
            have e1 : he s = 1 := by unfold he; rw [hI]; rfl
            have HF := HFT (by unfold fits; rw [hI]; rfl)
            rw [e1]
            clear HFT hI e1 cv1 cv2 t0 t1 t2 t3
            generalize (hc s).length = hl at *
            go_wp2_with fail
            have hw := hw.out
            go_roundw
            case rel => exact ⟨j + 1, j1, Nb.step_v j _ rfl, HF.out, HB10.out⟩
            case measure => exact Nb.msr j 1 j1 _ rfl
          | true =>
            have e1 : he s = 0 := by unfold he; rw [hI]; rfl
            have e2 : hc s = enc (itS s) := by unfold hc; rw [hI]; rfl
            have ef : fits b s = decide (hc s = b) := by unfold fits; rw [hI, e2]; rfl
            rw [e1]
            by_cases eb : hc s = b
            · have hq : ((bst (hc s)).toList == (bst b).toList) = true := by rw [eb]; exact beq_self_eq_true _
              have HFF : Hid (fnd b ss = (s, 0)) := by
                show _ = _
                unfold fnd
                rw [find_at (fits b) zS ss j HJL.out HFN.out (by rw [← HS.out, ef]; exact decide_eq_true eb), ← HS.out]
              clear HFT hI e1 e2 ef eb hw
              generalize (hc s).length = hl at *
              generalize bst (hc s) = X1 at *
              generalize bst b = X2 at *
              have x10 : BS h w10 := BS_gb (r := none) HX8.out (gb_below HB10.out) nofun
              go_upto_region 23 with fail
              go_wp2_with (refine wpList_stS rfl rfl rfl rfl x10 ?_)
              intro w6 g6 z0 z1 z2 z3
              have l5 := HL8.out.trans (HB10.out.mono HL8.out.size)
              have l6 : Hid (Below w.heap.size w w6) := l5.trans ⟨g6.os, g6.tape, g6.output, g6.size, fun j hj => g6.block j (by have := l5.size; omega) (fun e => by injection e with e; have := EH.out; omega)⟩
              have S6 : Hid (Sh s (.int .i64 k, .slice p1 p2 p3, .slice p4 p5 p6, .slice p7 p8 p9) w6) := Sh_gb HS10.out (BS_nb x10) HOB.out g6
              clear g6 x10 l5 t0 t1 t2 t3 cv1 cv2
              go_wp2_with fail
              exact bodyPost_ret (v := .tuple #[.agg #[.int .i64 k, .slice p1 p2 p3, .slice p4 p5 p6, .slice p7 p8 p9], .int .i64 0]) (resS2 _ _ _ h 2 3 _ _ _ _ _ rfl rfl rfl z0 z1 z2 z3) rfl (by rw [HFF.out]; exact ⟨(.int .i64 k, .slice p1 p2 p3, .slice p4 p5 p6, .slice p7 p8 p9), rfl, S6.out, l6.out, ⟨_, _, _, _, _, _, _, _, _, _, rfl⟩⟩)
            · have HF := HFT (by rw [ef]; exact decide_eq_false eb)
              have hq : ((bst (hc s)).toList == (bst b).toList) = false := (bs_eq (hc s) b).trans (decide_eq_false eb)
              clear HFT hI e1 e2 ef eb t0 t1 t2 t3
              generalize (hc s).length = hl at *
              generalize bst (hc s) = X1 at *
              generalize bst b = X2 at *
              go_wp2_with fail
              have hw := hw.out
              go_roundw
              case rel => exact ⟨j + 1, j1, Nb.step_v j _ rfl, HF.out, HB10.out⟩
              case measure => exact Nb.msr j 1 j1 _ rfl
        · have hkl : j = 1 := by omega
          subst hkl
          have HFF : Hid (fnd b ss = (zS, 1)) := by
            show _ = _
            unfold fnd
            rw [find_no (fits b) zS ss (fun i hi => HJ.out.1 i (by rw [hlen.out] at hi; exact hi))]
          have x10 : BS h wx := BS_gb (r := none) HX8.out (gb_below HJ.out.2) nofun
          have l5 := HL8.out.trans (HJ.out.2.mono HL8.out.size)
          clear j1 hj HJ
          go_upto_region 25 with fail
          go_wp2_with (refine wpList_stS rfl rfl rfl rfl x10 ?_)
          intro w6 g6 z0 z1 z2 z3
          have l6 : Hid (Below w.heap.size w w6) := l5.trans ⟨g6.os, g6.tape, g6.output, g6.size, fun j hj => g6.block j (by have := l5.size; omega) (fun e => by injection e with e; have := EH.out; omega)⟩
          clear g6 x10 l5
          go_wp2_with fail
          exact bodyPost_ret (v := .tuple #[.agg #[.int .i64 0, .slice none 0 0, .slice none 0 0, .slice none 0 0], .int .i64 1]) (resS2 _ _ _ h 2 3 _ _ _ _ _ rfl rfl rfl z0 z1 z2 z3) rfl (by rw [HFF.out]; exact ⟨(.int .i64 0, .slice none 0 0, .slice none 0 0, .slice none 0 0), rfl, ⟨rfl, Sl_nil _, Sl_nil _, Ls_nil' _⟩, l6.out, ⟨_, _, _, _, _, _, _, _, _, _, rfl⟩⟩)
set_option maxHeartbeats 8000000 in
set_option maxRecDepth 100000 in
theorem hr_leaf (b : List UInt8) (a : Option Addr) (n c : Nat) (w : World) (ks : List It) (ss : List Shp) (hb : Hid (∀ wx, Below w.heap.size w wx → Sl b (.slice a n c) wx))
    (KD : Hid (∀ wx : World, Below w.heap.size w wx → Calls Try.prog 14 #[.slice a n c] wx fun e w' => ∃ lb a1 n1 c1 a2 n2 c2 hs, e = .returned (.tuple #[.agg #[.bool lb, .slice a1 n1 c1, .slice a2 n2 c2], .int .i64 0]) ∧ KV ks a2 n2 w' hs ∧ Below wx.heap.size wx w')) (hz : Hid (ks.length ≤ 1048576))
    (KH : Hid (∀ (s : Shp) (x : V4) (wx : World), s ∈ ss → Sh s x wx → Calls Try.prog 16 #[v4 x] wx fun e w' => ∃ v, e = .returned (.tuple #[v, .int .i64 (he s)]) ∧ Sl (hc s) v w' ∧ Below wx.heap.size wx w')) (P : List UInt8) (KU : Hid (∀ (x : Option Addr) (y : Nat) (wx : World), Sl ((ks.map txt).getD 0 []) (.slice x ((ks.map txt).getD 0 []).length y) wx → Calls Try.prog 15 #[.slice x ((ks.map txt).getD 0 []).length y] wx fun e w' => ∃ v z, e = .returned (.tuple #[v, .bool true, .int .i64 z]) ∧ Sl P v w' ∧ Below wx.heap.size wx w')) (hss : Hid (ss = [zS, (1, P, (ks.map txt).getD 1 [], [])])) (h2 : Hid (ks.length = 2)) :
    Calls Try.prog 6 #[.slice a n c] w (PR w (fnd b ss).1 (fnd b ss).2) := by
  have x0 := BS_new w
  have l0 : Below w.heap.size w (w.alloc (.cells #[.int .i64 0, .slice none 0 0, .slice none 0 0, .slice none 0 0] 25)) := (Below.refl _ _).alloc (Nat.le_refl _) _
  go_enter Try.func6, Try.ntmps6
  go_upto_region 1 with fail
  generalize w.alloc (.cells #[.int .i64 0, .slice none 0 0, .slice none 0 0, .slice none 0 0] 25) = W0 at *
  obtain ⟨h, eh⟩ : ∃ h, h = w.heap.size := ⟨_, rfl⟩
  have EH : Hid (h = w.heap.size) := eh
  rw [← eh] at x0 ⊢
  clear eh
  go_wp2_with fail
  refine (KD.out _ l0).mono ?_
  rintro e w1 ⟨lb, b1, n1, c1, a2, n2, c2, hs, rfl, hk, bb⟩
  have l1 : Below w.heap.size w w1 := l0.trans (bb.mono l0.size)
  have x1 : BS h w1 := BS_gb (r := none) x0 (gb_below bb) nofun
  have bA : Below w1.heap.size w1 (w1.alloc (.cells #[.bool lb, .slice b1 n1 c1, .slice a2 n2 c2] 42)) := (Below.refl _ _).alloc (Nat.le_refl _) _
  have HL2 : Hid (Below w.heap.size w (w1.alloc (.cells #[.bool lb, .slice b1 n1 c1, .slice a2 n2 c2] 42))) := l1.trans (bA.mono l1.size)
  have HX2 : Hid (BS h (w1.alloc (.cells #[.bool lb, .slice b1 n1 c1, .slice a2 n2 c2] 42))) := BS_gb (r := none) x1 (gb_below bA) nofun
  have HK : Hid (KV ks a2 n2 w1 hs) := hk
  have BA : Hid (Below w1.heap.size w1 (w1.alloc (.cells #[.bool lb, .slice b1 n1 c1, .slice a2 n2 c2] 42))) := bA
  clear KD l0 bb x0 x1 l1 hk bA
  have HN : Hid (n2 = ks.length) := HK.out.e
  have HLN : Hid (hs.length = n2) := by show _ = _; rw [HK.out.h.l, List.length_map]; exact HN.out.symm
  go_wp2_with fail
  generalize w1.alloc (.cells #[.bool lb, .slice b1 n1 c1, .slice a2 n2 c2] 42) = w2 at *
  go_loopw [6, 28] (fun v i wr => ∃ k : Nat, k ≤ n2 ∧ i = .int .i64 (k : Int) ∧ Hid (wr.ownsRow w2.heap.size 22 1 v (hs.take k).length (hs.take k) ∧ Below w2.heap.size w2 wr)) (fun _ i _ => ((n2 : Int) - intOf i).toNat)
  case atStart => exact ⟨0, Nat.zero_le _, rfl, World.ownsRow_nil _ _ _ _, Below.refl _ _⟩
  case round =>
    obtain ⟨k, hk1, rfl, HI⟩ := hrel
    obtain ⟨ak, nk, ck, rfl⟩ := own_form HI.out.1
    have BW : Hid (Below w1.heap.size w1 wr) := BA.out.trans (HI.out.2.mono BA.out.size)
    by_cases h1 : k < n2
    · have d0 : (k : Int) < (n2 : Int) := by omega
      have d1 : (0 : Int) ≤ (k : Int) := by omega
      have hw := Nb.stp k (by have := hz.out; have := HN.out; show _ ≤ _; omega)
      obtain ⟨g, off, rfl, hg, hcc⟩ := HK.out.c (by omega)
      obtain ⟨x1, y1, x2, m2, y2, e1, k0, k1, k2⟩ := hcc k h1
      have r0 := (BW.out.cell (p := ⟨g, off + k * 3, none⟩) hg).trans k0
      have r1 := (BW.out.cell (p := ⟨g, off + k * 3 + 1, none⟩) hg).trans k1
      have r2 := (BW.out.cell (p := ⟨g, off + k * 3 + 2, none⟩) hg).trans k2
      have HK1 : Hid (k < n2) := h1
      have hkh : k < hs.length := by have := HLN.out; omega
      have HTK : Hid (hs.take (k + 1) = hs.take k ++ [.slice x1 (txt (ks.getD k It.no)).length y1]) := by
        show _ = _
        rw [List.take_add_one, List.getElem?_eq_getElem hkh]
        have : hs[k] = .slice x1 (txt (ks.getD k It.no)).length y1 := by rw [← e1, List.getD_eq_getElem?_getD, List.getElem?_eq_getElem hkh]; rfl
        rw [this]
        rfl
      clear hg hcc k0 k1 k2 e1 hkh BW
      generalize (txt (ks.getD k It.no)).length = mk at *
      generalize isL (ks.getD k It.no) = lk at *
      have bA : Below wr.heap.size wr (wr.alloc (.cells #[.bool lk, .slice x1 mk y1, .slice x2 m2 y2] 42)) := (Below.refl _ _).alloc (Nat.le_refl _) _
      have hs1 : (wr.alloc (.cells #[.bool lk, .slice x1 mk y1, .slice x2 m2 y2] 42)).heap.size = wr.heap.size + 1 := by simp
      have bB : Below wr.heap.size wr ((wr.alloc (.cells #[.bool lk, .slice x1 mk y1, .slice x2 m2 y2] 42)).alloc (.cells #[.slice x1 mk y1] 22)) := bA.alloc (by omega) _
      have hnw := heap_alloc_new (wr.alloc (.cells #[.bool lk, .slice x1 mk y1, .slice x2 m2 y2] 42)) (.cells #[.slice x1 mk y1] 22)
      rw [hs1] at hnw
      have oB : ((wr.alloc (.cells #[.bool lk, .slice x1 mk y1, .slice x2 m2 y2] 42)).alloc (.cells #[.slice x1 mk y1] 22)).ownsRow w2.heap.size 22 1 (.slice ak nk ck) (hs.take k).length (hs.take k) := (HI.out.1.alloc _).alloc _
      have vB : Vl [.slice x1 mk y1] (.slice (some ⟨wr.heap.size + 1, 0, none⟩) 1 1) ((wr.alloc (.cells #[.bool lk, .slice x1 mk y1, .slice x2 m2 y2] 42)).alloc (.cells #[.slice x1 mk y1] 22)) := ⟨_, 1, rfl, fun _ => ⟨_, 0, rfl, by simp, fun j hj => by
        have : j = 0 := by simp at hj; omega
        subst this
        simp only [World.cell?, hnw]
        rfl⟩⟩
      have hbw := HI.out.2.size
      obtain ⟨v', w', hap, ho', hb'⟩ := appv_r (ys := [.slice x1 mk y1]) 23 oB vB (fun u hu => by rw [List.mem_singleton.1 hu]; rfl) (by have := bB.size; omega) (by rw [List.length_take]; have := hz.out; have := HN.out; simp; omega)
      rw [← HTK.out] at ho'
      obtain ⟨ak2, nk2, ck2, rfl⟩ := own_form ho'
      have HI7 : Hid (w'.ownsRow w2.heap.size 22 1 (.slice ak2 nk2 ck2) (hs.take (k + 1)).length (hs.take (k + 1)) ∧ Below w2.heap.size w2 w') := ⟨ho', (HI.out.2.trans (bB.mono hbw)).trans hb'⟩
      clear HI HTK bA bB hs1 hnw oB vB hbw ho' hb'
      go_wp2_with (at_builtin; refine wpList_apw rfl rfl rfl rfl hap ?_)
      have hw := hw.out
      go_roundw
      case rel => exact ⟨k + 1, HK1.out, Nb.step_v k _ hw, HI7⟩
      case measure => exact Nb.msr k n2 HK1.out _ hw
    · have hkl : k = n2 := by omega
      have ex : hs.take k = hs := by rw [hkl, ← HLN.out, List.take_length]
      have ho := HI.out.1
      rw [ex] at ho
      have HLS : Hid (Ls (ks.map txt) (.slice ak nk ck) wr) := own_ls ho (Hds_below HK.out.h BW.out)
      have HRF : Hid (Rf w2.heap.size (.slice ak nk ck)) := rf_own ho
      have HCP : Hid (nk ≤ ck) := own_cap ho
      have HNK : Hid (nk = ks.length) := by
        obtain ⟨_, _, e⟩ := own_len ho
        injection e with _ e _
        show _ = _
        rw [e, HLN.out]; exact HN.out
      have HLR : Hid (Below w.heap.size w wr) := HL2.out.trans (HI.out.2.mono HL2.out.size)
      have HXR : Hid (BS h wr) := BS_gb (r := none) HX2.out (gb_below HI.out.2) nofun
      have HHW : Hid (h < w2.heap.size) := HX2.out.hi
      have HWR : Hid (w2.heap.size ≤ wr.heap.size) := HI.out.2.size
      clear HI BW ho ex h1 hk1 HK HL2 HX2 BA HN HLN
      subst hkl
      have e2 : nk = 2 := by rw [HNK.out]; exact h2.out
      subst e2
      obtain ⟨ax, cx, ex, hL⟩ := HLS.out
      injection ex with e1 e9 e3
      clear e9
      subst e1 e3
      obtain ⟨g, off, eA, hg, hcc⟩ := hL (by rw [List.length_map, h2.out]; decide)
      subst eA
      have hg2 : w2.heap.size ≤ g := HRF.out g rfl
      have hck := HCP.out
      have bT : Below wr.heap.size wr (wr.alloc (.cells #[.int .i64 0, .slice none 0 0, .slice none 0 0, .slice none 0 0] 25)) := (Below.refl _ _).alloc (Nat.le_refl _) _
      have oT := own_t wr wr.heap.size (Nat.le_refl _)
      obtain ⟨v0, k0, s0⟩ := hcc 0 (by rw [List.length_map, h2.out]; decide)
      obtain ⟨v1, k1, s1⟩ := hcc 1 (by rw [List.length_map, h2.out]; decide)
      obtain ⟨b0, d0, rfl⟩ := Sl_fm s0
      obtain ⟨b2, d2, rfl⟩ := Sl_fm s1
      have y0 := (bT.cell (p := ⟨g, off, none⟩) hg).trans k0
      have KU2 : Hid _ := KU.out b0 d0 _ (Sl_below s0 bT)
      have HPK : Hid (wr.cell? ⟨g, off + 1, none⟩ = some (.slice b2 ((ks.map txt).getD 1 []).length d2) ∧ g < wr.heap.size ∧ w2.heap.size ≤ g) := ⟨k1, hg, hg2⟩
      have HS1 : Hid (Sl ((ks.map txt).getD 1 []) (.slice b2 ((ks.map txt).getD 1 []).length d2) wr) := s1
      have HBT : Hid (Below wr.heap.size wr (wr.alloc (.cells #[.int .i64 0, .slice none 0 0, .slice none 0 0, .slice none 0 0] 25))) := bT
      have HOT : Hid ((wr.alloc (.cells #[.int .i64 0, .slice none 0 0, .slice none 0 0, .slice none 0 0] 25)).ownsRow wr.heap.size 25 4 (.slice (some ⟨wr.heap.size, 0, none⟩) 1 1) 1 [.int .i64 0, .slice none 0 0, .slice none 0 0, .slice none 0 0]) := oT
      clear hL hcc k0 k1 s0 s1 hg hg2 bT oT HLS
      generalize ((ks.map txt).getD 0 []).length = m0 at *
      obtain ⟨beh, hbeh⟩ : ∃ beh, beh = (ks.map txt).getD 1 [] := ⟨_, rfl⟩
      rw [← hbeh] at HS1 HPK
      have EBH : Hid (beh = (ks.map txt).getD 1 []) := hbeh
      clear hbeh
      have c1c : (2 : Int) ≤ (ck : Int) := by omega
      have c1d : (1 : Int) ≤ (ck : Int) := by omega
      go_wp2_with fail
      refine Calls.mono KU2.out ?_
      rintro e w6 ⟨v, z, rfl, s6, b6⟩
      obtain ⟨pa, pc, rfl⟩ := Sl_fm s6
      have z1 := (b6.cell (p := ⟨g, off + 1, none⟩) (Nat.lt_of_lt_of_le HPK.out.2.1 HBT.out.size)).trans ((HBT.out.cell (p := ⟨g, off + 1, none⟩) HPK.out.2.1).trans HPK.out.1)
      have bT := HBT.out
      have oT := HOT.out
      have s1' : Sl beh (.slice b2 beh.length d2) w6 := Sl_below (Sl_below HS1.out bT) b6
      clear KU2 HBT HOT y0
      have b7 : Below w6.heap.size w6 (w6.alloc (.cells #[.int .i64 1, .slice pa P.length pc, .slice b2 beh.length d2, .slice none 0 0] 25)) := (Below.refl _ _).alloc (Nat.le_refl _) _
      have b67 := b6.trans (b7.mono b6.size)
      have HA := heap_alloc_new w6 (.cells #[.int .i64 1, .slice pa P.length pc, .slice b2 beh.length d2, .slice none 0 0] 25)
      have n0 : (w6.alloc (.cells #[.int .i64 1, .slice pa P.length pc, .slice b2 beh.length d2, .slice none 0 0] 25)).cell? ⟨w6.heap.size, 0, none⟩ = some (.int .i64 1) := by simp only [World.cell?, HA]; rfl
      have n1 : (w6.alloc (.cells #[.int .i64 1, .slice pa P.length pc, .slice b2 beh.length d2, .slice none 0 0] 25)).cell? ⟨w6.heap.size, 1, none⟩ = some (.slice pa P.length pc) := by simp only [World.cell?, HA]; rfl
      have n2 : (w6.alloc (.cells #[.int .i64 1, .slice pa P.length pc, .slice b2 beh.length d2, .slice none 0 0] 25)).cell? ⟨w6.heap.size, 2, none⟩ = some (.slice b2 beh.length d2) := by simp only [World.cell?, HA]; rfl
      have n3 : (w6.alloc (.cells #[.int .i64 1, .slice pa P.length pc, .slice b2 beh.length d2, .slice none 0 0] 25)).cell? ⟨w6.heap.size, 3, none⟩ = some (.slice none 0 0) := by simp only [World.cell?, HA]; rfl
      have OBH : (Value.slice none 0 0).ownBlock ≠ some h := nofun
      have hx7 : BS wr.heap.size (w6.alloc (.cells #[.int .i64 1, .slice pa P.length pc, .slice b2 beh.length d2, .slice none 0 0] 25)) := BS_gb (r := none) (BS_new wr) (gb_below b67) nofun
      have oT7 : (w6.alloc (.cells #[.int .i64 1, .slice pa P.length pc, .slice b2 beh.length d2, .slice none 0 0] 25)).ownsRow wr.heap.size 25 4 (.slice (some ⟨wr.heap.size, 0, none⟩) 1 1) 1 [.int .i64 0, .slice none 0 0, .slice none 0 0, .slice none 0 0] := ownb oT b67
      have l7 : Below w.heap.size w (w6.alloc (.cells #[.int .i64 1, .slice pa P.length pc, .slice b2 beh.length d2, .slice none 0 0] 25)) := HLR.out.trans ((bT.trans (b67.mono bT.size)).mono HLR.out.size)
      obtain ⟨G, cap, w8, hap, ho8, hgr⟩ := app_sh 48 (.int .i64 1) (.slice pa P.length pc) (.slice b2 beh.length d2) (.slice none 0 0) rfl rfl rfl rfl oT7 n0 n1 n2 n3 (by have := bT.size; have := b67.size; omega)
      have hgr : (w6.alloc (.cells #[.int .i64 1, .slice pa P.length pc, .slice b2 beh.length d2, .slice none 0 0] 25)).grownBy w8 (some wr.heap.size) := hgr
      have hhw : h < wr.heap.size := HXR.out.hi
      have HL8 : Hid (Below w.heap.size w w8) := l7.trans ⟨hgr.os, hgr.tape, hgr.output, hgr.size, fun j hj => hgr.block j (by have := l7.size; omega) (fun e => by injection e with e; have := HLR.out.size; omega)⟩
      have HX8 : Hid (BS h w8) := BS_gb (BS_gb (r := none) HXR.out (gb_below (bT.trans (b67.mono bT.size))) nofun) hgr (fun e => by injection e with e; omega)
      have S8 : Sh (1, P, beh, []) (.int .i64 1, .slice pa P.length pc, .slice b2 beh.length d2, .slice none 0 0) w8 := Sh_gb ⟨rfl, Sl_below s6 b7, Sl_below s1' b7, Ls_nil' _⟩ (BS_nb hx7) nofun hgr
      have HCC : Hid (G < w8.heap.size ∧ ∀ j, j < 2 → ∃ k p1 p2 p3 p4 p5 p6 p7 p8 p9, Sh (ss.getD j zS) (.int .i64 k, .slice p1 p2 p3, .slice p4 p5 p6, .slice p7 p8 p9) w8 ∧ (Value.slice p7 p8 p9).ownBlock ≠ some h ∧ w8.cell? ⟨G, j * 4, none⟩ = some (.int .i64 k) ∧ w8.cell? ⟨G, j * 4 + 1, none⟩ = some (.slice p1 p2 p3) ∧ w8.cell? ⟨G, j * 4 + 2, none⟩ = some (.slice p4 p5 p6) ∧ w8.cell? ⟨G, j * 4 + 3, none⟩ = some (.slice p7 p8 p9)) := by
        obtain ⟨gT, cT, eT, _, hgT, hcT⟩ := own_cellz ho8 (by decide)
        injection eT with eT _ _
        injection eT with eT
        injection eT with eT _ _
        subst eT
        refine ⟨hgT, fun j hj => ?_⟩
        have hj2 : j = 0 ∨ j = 1 := by omega
        rcases hj2 with rfl | rfl
        · exact ⟨0, none, 0, 0, none, 0, 0, none, 0, 0, by rw [hss.out]; exact ⟨rfl, Sl_nil _, Sl_nil _, Ls_nil' _⟩, nofun, hcT 0 _ rfl, hcT 1 _ rfl, hcT 2 _ rfl, hcT 3 _ rfl⟩
        · exact ⟨_, _, _, _, _, _, _, _, _, _, by rw [hss.out, ← EBH.out]; exact S8, OBH, hcT 4 _ rfl, hcT 5 _ rfl, hcT 6 _ rfl, hcT 7 _ rfl⟩
      have hlen : Hid (ss.length = 2) := by show _ = _; rw [hss.out]; rfl
      clear b7 b67 HA n0 n1 n2 n3 hx7 oT7 l7 ho8 hgr S8 s6 b6 bT oT s1' HS1 HPK HLR HXR hhw OBH HRF HCP HNK HHW HWR
      generalize P.length = pl at *
      generalize beh.length = bl at *
      go_upto_region 18 with (at_builtin; refine wpList_apw rfl rfl rfl rfl hap ?_)
      have HB8 : Hid (∀ wx, Below w8.heap.size w8 wx → Sl b (.slice a n c) wx) := fun wx hbx => hb.out wx (HL8.out.trans (hbx.mono HL8.out.size))
      clear hb
      go_wp2_with fail
      go_loopw [81] (fun s wx => ∃ j : Nat, j ≤ 2 ∧ s = .int .i64 (j : Int) ∧ Hid ((∀ i, i < j → fits b (ss.getD i zS) = false) ∧ Below w8.heap.size w8 wx)) (fun s _ => ((2 : Int) - intOf s).toNat)
      case atStart => exact ⟨0, Nat.zero_le _, rfl, fun i hi => absurd hi (by omega), Below.refl _ _⟩
      case round =>
        rename World => wx
        obtain ⟨j, hj, rfl, HJ⟩ := hrel
        by_cases j1 : j < 2
        · have d0 : (j : Int) < 2 := by omega
          have d1 : (0 : Int) ≤ (j : Int) := by omega
          have hw := Nb.stp j (by show _ ≤ _; omega)
          obtain ⟨k, p1, p2, p3, p4, p5, p6, p7, p8, p9, sh, ob, y0, y1, y2, y3⟩ := HCC.out.2 j j1
          have r0 := (HJ.out.2.cell (p := ⟨G, j * 4, none⟩) HCC.out.1).trans y0
          have r1 := (HJ.out.2.cell (p := ⟨G, j * 4 + 1, none⟩) HCC.out.1).trans y1
          have r2 := (HJ.out.2.cell (p := ⟨G, j * 4 + 2, none⟩) HCC.out.1).trans y2
          have r3 := (HJ.out.2.cell (p := ⟨G, j * 4 + 3, none⟩) HCC.out.1).trans y3
          have bA : Below wx.heap.size wx (wx.alloc (.cells #[.int .i64 k, .slice p1 p2 p3, .slice p4 p5 p6, .slice p7 p8 p9] 25)) := (Below.refl _ _).alloc (Nat.le_refl _) _
          have b8 := HJ.out.2.trans (bA.mono HJ.out.2.size)
          obtain ⟨s, hs'⟩ : ∃ s, s = ss.getD j zS := ⟨_, rfl⟩
          have HS : Hid (s = ss.getD j zS) := hs'
          rw [← hs'] at sh
          have hjs : j < ss.length := by rw [hlen.out]; exact j1
          have hmem : s ∈ ss := by rw [hs', List.getD_eq_getElem?_getD, List.getElem?_eq_getElem hjs]; exact List.getElem_mem _
          have HJL : Hid (j < ss.length) := hjs
          have shA := Sh_below (Sh_below sh HJ.out.2) bA
          have KC : Hid _ := KH.out s (.int .i64 k, .slice p1 p2 p3, .slice p4 p5 p6, .slice p7 p8 p9) _ hmem shA
          have HSA : Hid (Sh s (.int .i64 k, .slice p1 p2 p3, .slice p4 p5 p6, .slice p7 p8 p9) (wx.alloc (.cells #[.int .i64 k, .slice p1 p2 p3, .slice p4 p5 p6, .slice p7 p8 p9] 25))) := shA
          have HOB : Hid ((Value.slice p7 p8 p9).ownBlock ≠ some h) := ob
          have HA := heap_alloc_new wx (.cells #[.int .i64 k, .slice p1 p2 p3, .slice p4 p5 p6, .slice p7 p8 p9] 25)
          have q0 : (wx.alloc (.cells #[.int .i64 k, .slice p1 p2 p3, .slice p4 p5 p6, .slice p7 p8 p9] 25)).cell? ⟨wx.heap.size, 0, none⟩ = some (.int .i64 k) := by simp only [World.cell?, HA]; rfl
          have q1 : (wx.alloc (.cells #[.int .i64 k, .slice p1 p2 p3, .slice p4 p5 p6, .slice p7 p8 p9] 25)).cell? ⟨wx.heap.size, 1, none⟩ = some (.slice p1 p2 p3) := by simp only [World.cell?, HA]; rfl
          have q2 : (wx.alloc (.cells #[.int .i64 k, .slice p1 p2 p3, .slice p4 p5 p6, .slice p7 p8 p9] 25)).cell? ⟨wx.heap.size, 2, none⟩ = some (.slice p4 p5 p6) := by simp only [World.cell?, HA]; rfl
          have q3 : (wx.alloc (.cells #[.int .i64 k, .slice p1 p2 p3, .slice p4 p5 p6, .slice p7 p8 p9] 25)).cell? ⟨wx.heap.size, 3, none⟩ = some (.slice p7 p8 p9) := by simp only [World.cell?, HA]; rfl
          have hwA : wx.heap.size < (wx.alloc (.cells #[.int .i64 k, .slice p1 p2 p3, .slice p4 p5 p6, .slice p7 p8 p9] 25)).heap.size := by simp
          have HB9 : Hid (Below w8.heap.size w8 (wx.alloc (.cells #[.int .i64 k, .slice p1 p2 p3, .slice p4 p5 p6, .slice p7 p8 p9] 25))) := b8
          have HFN : Hid (∀ i, i < j → fits b (ss.getD i zS) = false) := HJ.out.1
          clear sh ob y0 y1 y2 y3 bA b8 hs' hjs hmem shA HA HJ
          dsimp only [v4] at KC
          go_upto_region 21 with fail
          generalize wx.alloc (.cells #[.int .i64 k, .slice p1 p2 p3, .slice p4 p5 p6, .slice p7 p8 p9] 25) = w9 at *
          generalize wx.heap.size = g9 at *
          clear r0 r1 r2 r3
          go_wp2_with fail
          refine Calls.mono KC.out ?_
          rintro e w10 ⟨v, rfl, sc, bc⟩
          obtain ⟨va, vc, rfl⟩ := Sl_fm sc
          have HB10 : Hid (Below w8.heap.size w8 w10) := HB9.out.trans (bc.mono HB9.out.size)
          have HS10 : Hid (Sh s (.int .i64 k, .slice p1 p2 p3, .slice p4 p5 p6, .slice p7 p8 p9) w10) := Sh_below HSA.out bc
          have t0 := (bc.cell (p := ⟨g9, 0, none⟩) hwA).trans q0
          have t1 := (bc.cell (p := ⟨g9, 1, none⟩) hwA).trans q1
          have t2 := (bc.cell (p := ⟨g9, 2, none⟩) hwA).trans q2
          have t3 := (bc.cell (p := ⟨g9, 3, none⟩) hwA).trans q3
          have cv1 := Sl_bst sc
          have cv2 := Sl_bst (HB8.out w10 HB10.out)
          have HFT : fits b s = false → Hid (∀ i, i < j + 1 → fits b (ss.getD i zS) = false) := fun e i hi => by
            by_cases e2 : i = j
            · subst e2; rw [← HS.out]; exact e
            · exact HFN.out i (by omega)
          clear bc sc KC HSA HB9 q0 q1 q2 q3 hwA
          cases hI : isS s with
          | false =>
            have e1 : he s = 1 := by unfold he; rw [hI]; rfl
            have HF := HFT (by unfold fits; rw [hI]; rfl)
            rw [e1]
            clear HFT hI e1 cv1 cv2 t0 t1 t2 t3
            generalize (hc s).length = hl at *
            go_wp2_with fail
            have hw := hw.out
            go_roundw
            case rel => exact ⟨j + 1, j1, Nb.step_v j _ rfl, HF.out, HB10.out⟩
            case measure => exact Nb.msr j 2 j1 _ rfl
          | true =>
            have e1 : he s = 0 := by unfold he; rw [hI]; rfl
            have e2 : hc s = enc (itS s) := by unfold hc; rw [hI]; rfl
            have ef : fits b s = decide (hc s = b) := by unfold fits; rw [hI, e2]; rfl
            rw [e1]
            by_cases eb : hc s = b
            · have hq : ((bst (hc s)).toList == (bst b).toList) = true := by rw [eb]; exact beq_self_eq_true _
              have HFF : Hid (fnd b ss = (s, 0)) := by
                show _ = _
                unfold fnd
                rw [find_at (fits b) zS ss j HJL.out HFN.out (by rw [← HS.out, ef]; exact decide_eq_true eb), ← HS.out]
              clear HFT hI e1 e2 ef eb hw
              generalize (hc s).length = hl at *
              generalize bst (hc s) = X1 at *
              generalize bst b = X2 at *
              have x10 : BS h w10 := BS_gb (r := none) HX8.out (gb_below HB10.out) nofun
              go_upto_region 23 with fail
              go_wp2_with (refine wpList_stS rfl rfl rfl rfl x10 ?_)
              intro w6 g6 z0 z1 z2 z3
              have l5 := HL8.out.trans (HB10.out.mono HL8.out.size)
              have l6 : Hid (Below w.heap.size w w6) := l5.trans ⟨g6.os, g6.tape, g6.output, g6.size, fun j hj => g6.block j (by have := l5.size; omega) (fun e => by injection e with e; have := EH.out; omega)⟩
              have S6 : Hid (Sh s (.int .i64 k, .slice p1 p2 p3, .slice p4 p5 p6, .slice p7 p8 p9) w6) := Sh_gb HS10.out (BS_nb x10) HOB.out g6
              clear g6 x10 l5 t0 t1 t2 t3 cv1 cv2
              go_wp2_with fail
              exact bodyPost_ret (v := .tuple #[.agg #[.int .i64 k, .slice p1 p2 p3, .slice p4 p5 p6, .slice p7 p8 p9], .int .i64 0]) (resS2 _ _ _ h 2 3 _ _ _ _ _ rfl rfl rfl z0 z1 z2 z3) rfl (by rw [HFF.out]; exact ⟨(.int .i64 k, .slice p1 p2 p3, .slice p4 p5 p6, .slice p7 p8 p9), rfl, S6.out, l6.out, ⟨_, _, _, _, _, _, _, _, _, _, rfl⟩⟩)
            · have HF := HFT (by rw [ef]; exact decide_eq_false eb)
              have hq : ((bst (hc s)).toList == (bst b).toList) = false := (bs_eq (hc s) b).trans (decide_eq_false eb)
              clear HFT hI e1 e2 ef eb t0 t1 t2 t3
              generalize (hc s).length = hl at *
              generalize bst (hc s) = X1 at *
              generalize bst b = X2 at *
              go_wp2_with fail
              have hw := hw.out
              go_roundw
              case rel => exact ⟨j + 1, j1, Nb.step_v j _ rfl, HF.out, HB10.out⟩
              case measure => exact Nb.msr j 2 j1 _ rfl
        · have hkl : j = 2 := by omega
          subst hkl
          have HFF : Hid (fnd b ss = (zS, 1)) := by
            show _ = _
            unfold fnd
            rw [find_no (fits b) zS ss (fun i hi => HJ.out.1 i (by rw [hlen.out] at hi; exact hi))]
          have x10 : BS h wx := BS_gb (r := none) HX8.out (gb_below HJ.out.2) nofun
          have l5 := HL8.out.trans (HJ.out.2.mono HL8.out.size)
          clear j1 hj HJ
          go_upto_region 25 with fail
          go_wp2_with (refine wpList_stS rfl rfl rfl rfl x10 ?_)
          intro w6 g6 z0 z1 z2 z3
          have l6 : Hid (Below w.heap.size w w6) := l5.trans ⟨g6.os, g6.tape, g6.output, g6.size, fun j hj => g6.block j (by have := l5.size; omega) (fun e => by injection e with e; have := EH.out; omega)⟩
          clear g6 x10 l5
          go_wp2_with fail
          exact bodyPost_ret (v := .tuple #[.agg #[.int .i64 0, .slice none 0 0, .slice none 0 0, .slice none 0 0], .int .i64 1]) (resS2 _ _ _ h 2 3 _ _ _ _ _ rfl rfl rfl z0 z1 z2 z3) rfl (by rw [HFF.out]; exact ⟨(.int .i64 0, .slice none 0 0, .slice none 0 0, .slice none 0 0), rfl, ⟨rfl, Sl_nil _, Sl_nil _, Ls_nil' _⟩, l6.out, ⟨_, _, _, _, _, _, _, _, _, _, rfl⟩⟩)
set_option maxHeartbeats 8000000 in
set_option maxRecDepth 100000 in
theorem hr_road (b : List UInt8) (a : Option Addr) (n c : Nat) (w : World) (ks : List It) (ss : List Shp) (hb : Hid (∀ wx, Below w.heap.size w wx → Sl b (.slice a n c) wx))
    (KD : Hid (∀ wx : World, Below w.heap.size w wx → Calls Try.prog 14 #[.slice a n c] wx fun e w' => ∃ lb a1 n1 c1 a2 n2 c2 hs, e = .returned (.tuple #[.agg #[.bool lb, .slice a1 n1 c1, .slice a2 n2 c2], .int .i64 0]) ∧ KV ks a2 n2 w' hs ∧ Below wx.heap.size wx w')) (hz : Hid (ks.length ≤ 1048576))
    (KH : Hid (∀ (s : Shp) (x : V4) (wx : World), s ∈ ss → Sh s x wx → Calls Try.prog 16 #[v4 x] wx fun e w' => ∃ v, e = .returned (.tuple #[v, .int .i64 (he s)]) ∧ Sl (hc s) v w' ∧ Below wx.heap.size wx w')) (P : List UInt8) (KU : Hid (∀ (x : Option Addr) (y : Nat) (wx : World), Sl ((ks.map txt).getD 0 []) (.slice x ((ks.map txt).getD 0 []).length y) wx → Calls Try.prog 15 #[.slice x ((ks.map txt).getD 0 []).length y] wx fun e w' => ∃ v z, e = .returned (.tuple #[v, .bool false, .int .i64 z]) ∧ Sl P v w' ∧ Below wx.heap.size wx w')) (hss : Hid (ss = [zS, (2, P, [], [(ks.map txt).getD 1 []])])) (h2 : Hid (ks.length = 2)) :
    Calls Try.prog 6 #[.slice a n c] w (PR w (fnd b ss).1 (fnd b ss).2) := by
  have x0 := BS_new w
  have l0 : Below w.heap.size w (w.alloc (.cells #[.int .i64 0, .slice none 0 0, .slice none 0 0, .slice none 0 0] 25)) := (Below.refl _ _).alloc (Nat.le_refl _) _
  go_enter Try.func6, Try.ntmps6
  go_upto_region 1 with fail
  generalize w.alloc (.cells #[.int .i64 0, .slice none 0 0, .slice none 0 0, .slice none 0 0] 25) = W0 at *
  obtain ⟨h, eh⟩ : ∃ h, h = w.heap.size := ⟨_, rfl⟩
  have EH : Hid (h = w.heap.size) := eh
  rw [← eh] at x0 ⊢
  clear eh
  go_wp2_with fail
  refine (KD.out _ l0).mono ?_
  rintro e w1 ⟨lb, b1, n1, c1, a2, n2, c2, hs, rfl, hk, bb⟩
  have l1 : Below w.heap.size w w1 := l0.trans (bb.mono l0.size)
  have x1 : BS h w1 := BS_gb (r := none) x0 (gb_below bb) nofun
  have bA : Below w1.heap.size w1 (w1.alloc (.cells #[.bool lb, .slice b1 n1 c1, .slice a2 n2 c2] 42)) := (Below.refl _ _).alloc (Nat.le_refl _) _
  have HL2 : Hid (Below w.heap.size w (w1.alloc (.cells #[.bool lb, .slice b1 n1 c1, .slice a2 n2 c2] 42))) := l1.trans (bA.mono l1.size)
  have HX2 : Hid (BS h (w1.alloc (.cells #[.bool lb, .slice b1 n1 c1, .slice a2 n2 c2] 42))) := BS_gb (r := none) x1 (gb_below bA) nofun
  have HK : Hid (KV ks a2 n2 w1 hs) := hk
  have BA : Hid (Below w1.heap.size w1 (w1.alloc (.cells #[.bool lb, .slice b1 n1 c1, .slice a2 n2 c2] 42))) := bA
  clear KD l0 bb x0 x1 l1 hk bA
  have HN : Hid (n2 = ks.length) := HK.out.e
  have HLN : Hid (hs.length = n2) := by show _ = _; rw [HK.out.h.l, List.length_map]; exact HN.out.symm
  go_wp2_with fail
  generalize w1.alloc (.cells #[.bool lb, .slice b1 n1 c1, .slice a2 n2 c2] 42) = w2 at *
  go_loopw [6, 28] (fun v i wr => ∃ k : Nat, k ≤ n2 ∧ i = .int .i64 (k : Int) ∧ Hid (wr.ownsRow w2.heap.size 22 1 v (hs.take k).length (hs.take k) ∧ Below w2.heap.size w2 wr)) (fun _ i _ => ((n2 : Int) - intOf i).toNat)
  case atStart => exact ⟨0, Nat.zero_le _, rfl, World.ownsRow_nil _ _ _ _, Below.refl _ _⟩
  case round =>
    obtain ⟨k, hk1, rfl, HI⟩ := hrel
    obtain ⟨ak, nk, ck, rfl⟩ := own_form HI.out.1
    have BW : Hid (Below w1.heap.size w1 wr) := BA.out.trans (HI.out.2.mono BA.out.size)
    by_cases h1 : k < n2
    · have d0 : (k : Int) < (n2 : Int) := by omega
      have d1 : (0 : Int) ≤ (k : Int) := by omega
      have hw := Nb.stp k (by have := hz.out; have := HN.out; show _ ≤ _; omega)
      obtain ⟨g, off, rfl, hg, hcc⟩ := HK.out.c (by omega)
      obtain ⟨x1, y1, x2, m2, y2, e1, k0, k1, k2⟩ := hcc k h1
      have r0 := (BW.out.cell (p := ⟨g, off + k * 3, none⟩) hg).trans k0
      have r1 := (BW.out.cell (p := ⟨g, off + k * 3 + 1, none⟩) hg).trans k1
      have r2 := (BW.out.cell (p := ⟨g, off + k * 3 + 2, none⟩) hg).trans k2
      have HK1 : Hid (k < n2) := h1
      have hkh : k < hs.length := by have := HLN.out; omega
      have HTK : Hid (hs.take (k + 1) = hs.take k ++ [.slice x1 (txt (ks.getD k It.no)).length y1]) := by
        show _ = _
        rw [List.take_add_one, List.getElem?_eq_getElem hkh]
        have : hs[k] = .slice x1 (txt (ks.getD k It.no)).length y1 := by rw [← e1, List.getD_eq_getElem?_getD, List.getElem?_eq_getElem hkh]; rfl
        rw [this]
        rfl
      clear hg hcc k0 k1 k2 e1 hkh BW
      generalize (txt (ks.getD k It.no)).length = mk at *
      generalize isL (ks.getD k It.no) = lk at *
      have bA : Below wr.heap.size wr (wr.alloc (.cells #[.bool lk, .slice x1 mk y1, .slice x2 m2 y2] 42)) := (Below.refl _ _).alloc (Nat.le_refl _) _
      have hs1 : (wr.alloc (.cells #[.bool lk, .slice x1 mk y1, .slice x2 m2 y2] 42)).heap.size = wr.heap.size + 1 := by simp
      have bB : Below wr.heap.size wr ((wr.alloc (.cells #[.bool lk, .slice x1 mk y1, .slice x2 m2 y2] 42)).alloc (.cells #[.slice x1 mk y1] 22)) := bA.alloc (by omega) _
      have hnw := heap_alloc_new (wr.alloc (.cells #[.bool lk, .slice x1 mk y1, .slice x2 m2 y2] 42)) (.cells #[.slice x1 mk y1] 22)
      rw [hs1] at hnw
      have oB : ((wr.alloc (.cells #[.bool lk, .slice x1 mk y1, .slice x2 m2 y2] 42)).alloc (.cells #[.slice x1 mk y1] 22)).ownsRow w2.heap.size 22 1 (.slice ak nk ck) (hs.take k).length (hs.take k) := (HI.out.1.alloc _).alloc _
      have vB : Vl [.slice x1 mk y1] (.slice (some ⟨wr.heap.size + 1, 0, none⟩) 1 1) ((wr.alloc (.cells #[.bool lk, .slice x1 mk y1, .slice x2 m2 y2] 42)).alloc (.cells #[.slice x1 mk y1] 22)) := ⟨_, 1, rfl, fun _ => ⟨_, 0, rfl, by simp, fun j hj => by
        have : j = 0 := by simp at hj; omega
        subst this
        simp only [World.cell?, hnw]
        rfl⟩⟩
      have hbw := HI.out.2.size
      obtain ⟨v', w', hap, ho', hb'⟩ := appv_r (ys := [.slice x1 mk y1]) 23 oB vB (fun u hu => by rw [List.mem_singleton.1 hu]; rfl) (by have := bB.size; omega) (by rw [List.length_take]; have := hz.out; have := HN.out; simp; omega)
      rw [← HTK.out] at ho'
      obtain ⟨ak2, nk2, ck2, rfl⟩ := own_form ho'
      have HI7 : Hid (w'.ownsRow w2.heap.size 22 1 (.slice ak2 nk2 ck2) (hs.take (k + 1)).length (hs.take (k + 1)) ∧ Below w2.heap.size w2 w') := ⟨ho', (HI.out.2.trans (bB.mono hbw)).trans hb'⟩
      clear HI HTK bA bB hs1 hnw oB vB hbw ho' hb'
      go_wp2_with (at_builtin; refine wpList_apw rfl rfl rfl rfl hap ?_)
      have hw := hw.out
      go_roundw
      case rel => exact ⟨k + 1, HK1.out, Nb.step_v k _ hw, HI7⟩
      case measure => exact Nb.msr k n2 HK1.out _ hw
    · have hkl : k = n2 := by omega
      have ex : hs.take k = hs := by rw [hkl, ← HLN.out, List.take_length]
      have ho := HI.out.1
      rw [ex] at ho
      have HLS : Hid (Ls (ks.map txt) (.slice ak nk ck) wr) := own_ls ho (Hds_below HK.out.h BW.out)
      have HRF : Hid (Rf w2.heap.size (.slice ak nk ck)) := rf_own ho
      have HCP : Hid (nk ≤ ck) := own_cap ho
      have HNK : Hid (nk = ks.length) := by
        obtain ⟨_, _, e⟩ := own_len ho
        injection e with _ e _
        show _ = _
        rw [e, HLN.out]; exact HN.out
      have HLR : Hid (Below w.heap.size w wr) := HL2.out.trans (HI.out.2.mono HL2.out.size)
      have HXR : Hid (BS h wr) := BS_gb (r := none) HX2.out (gb_below HI.out.2) nofun
      have HHW : Hid (h < w2.heap.size) := HX2.out.hi
      have HWR : Hid (w2.heap.size ≤ wr.heap.size) := HI.out.2.size
      clear HI BW ho ex h1 hk1 HK HL2 HX2 BA HN HLN
      subst hkl
      have e2 : nk = 2 := by rw [HNK.out]; exact h2.out
      subst e2
      obtain ⟨ax, cx, ex, hL⟩ := HLS.out
      injection ex with e1 e9 e3
      clear e9
      subst e1 e3
      obtain ⟨g, off, eA, hg, hcc⟩ := hL (by rw [List.length_map, h2.out]; decide)
      subst eA
      have hg2 : w2.heap.size ≤ g := HRF.out g rfl
      have hck := HCP.out
      have bT : Below wr.heap.size wr (wr.alloc (.cells #[.int .i64 0, .slice none 0 0, .slice none 0 0, .slice none 0 0] 25)) := (Below.refl _ _).alloc (Nat.le_refl _) _
      have oT := own_t wr wr.heap.size (Nat.le_refl _)
      obtain ⟨v0, k0, s0⟩ := hcc 0 (by rw [List.length_map, h2.out]; decide)
      obtain ⟨v1, k1, s1⟩ := hcc 1 (by rw [List.length_map, h2.out]; decide)
      obtain ⟨b0, d0, rfl⟩ := Sl_fm s0
      obtain ⟨b2, d2, rfl⟩ := Sl_fm s1
      have y0 := (bT.cell (p := ⟨g, off, none⟩) hg).trans k0
      have KU2 : Hid _ := KU.out b0 d0 _ (Sl_below s0 bT)
      have HPK : Hid (wr.cell? ⟨g, off + 1, none⟩ = some (.slice b2 ((ks.map txt).getD 1 []).length d2) ∧ g < wr.heap.size ∧ w2.heap.size ≤ g) := ⟨k1, hg, hg2⟩
      have HS1 : Hid (Sl ((ks.map txt).getD 1 []) (.slice b2 ((ks.map txt).getD 1 []).length d2) wr) := s1
      have HBT : Hid (Below wr.heap.size wr (wr.alloc (.cells #[.int .i64 0, .slice none 0 0, .slice none 0 0, .slice none 0 0] 25))) := bT
      have HOT : Hid ((wr.alloc (.cells #[.int .i64 0, .slice none 0 0, .slice none 0 0, .slice none 0 0] 25)).ownsRow wr.heap.size 25 4 (.slice (some ⟨wr.heap.size, 0, none⟩) 1 1) 1 [.int .i64 0, .slice none 0 0, .slice none 0 0, .slice none 0 0]) := oT
      clear hL hcc k0 k1 s0 s1 hg hg2 bT oT HLS
      generalize ((ks.map txt).getD 0 []).length = m0 at *
      obtain ⟨beh, hbeh⟩ : ∃ beh, beh = (ks.map txt).getD 1 [] := ⟨_, rfl⟩
      rw [← hbeh] at HS1 HPK
      have EBH : Hid (beh = (ks.map txt).getD 1 []) := hbeh
      clear hbeh
      have c1c : (2 : Int) ≤ (ck : Int) := by omega
      have c1d : (1 : Int) ≤ (ck : Int) := by omega
      go_wp2_with fail
      refine Calls.mono KU2.out ?_
      rintro e w6 ⟨v, z, rfl, s6, b6⟩
      obtain ⟨pa, pc, rfl⟩ := Sl_fm s6
      have z1 := (b6.cell (p := ⟨g, off + 1, none⟩) (Nat.lt_of_lt_of_le HPK.out.2.1 HBT.out.size)).trans ((HBT.out.cell (p := ⟨g, off + 1, none⟩) HPK.out.2.1).trans HPK.out.1)
      have bT := HBT.out
      have oT := HOT.out
      have s1' : Sl beh (.slice b2 beh.length d2) w6 := Sl_below (Sl_below HS1.out bT) b6
      clear KU2 HBT HOT y0
      have lk : Ls [beh] (.slice (some ⟨g, off + 1, none⟩) 1 (ck - 1)) w6 := ⟨_, _, rfl, fun _ => ⟨g, off + 1, rfl, Nat.lt_of_lt_of_le HPK.out.2.1 (Nat.le_trans bT.size b6.size), fun i hi => by
        have : i = 0 := by simp at hi; omega
        subst this
        exact ⟨_, z1, s1'⟩⟩⟩
      have b7 : Below w6.heap.size w6 (w6.alloc (.cells #[.int .i64 2, .slice pa P.length pc, .slice none 0 0, .slice (some ⟨g, off + 1, none⟩) 1 (ck - 1)] 25)) := (Below.refl _ _).alloc (Nat.le_refl _) _
      have b67 := b6.trans (b7.mono b6.size)
      have HA := heap_alloc_new w6 (.cells #[.int .i64 2, .slice pa P.length pc, .slice none 0 0, .slice (some ⟨g, off + 1, none⟩) 1 (ck - 1)] 25)
      have n0 : (w6.alloc (.cells #[.int .i64 2, .slice pa P.length pc, .slice none 0 0, .slice (some ⟨g, off + 1, none⟩) 1 (ck - 1)] 25)).cell? ⟨w6.heap.size, 0, none⟩ = some (.int .i64 2) := by simp only [World.cell?, HA]; rfl
      have n1 : (w6.alloc (.cells #[.int .i64 2, .slice pa P.length pc, .slice none 0 0, .slice (some ⟨g, off + 1, none⟩) 1 (ck - 1)] 25)).cell? ⟨w6.heap.size, 1, none⟩ = some (.slice pa P.length pc) := by simp only [World.cell?, HA]; rfl
      have n2 : (w6.alloc (.cells #[.int .i64 2, .slice pa P.length pc, .slice none 0 0, .slice (some ⟨g, off + 1, none⟩) 1 (ck - 1)] 25)).cell? ⟨w6.heap.size, 2, none⟩ = some (.slice none 0 0) := by simp only [World.cell?, HA]; rfl
      have n3 : (w6.alloc (.cells #[.int .i64 2, .slice pa P.length pc, .slice none 0 0, .slice (some ⟨g, off + 1, none⟩) 1 (ck - 1)] 25)).cell? ⟨w6.heap.size, 3, none⟩ = some (.slice (some ⟨g, off + 1, none⟩) 1 (ck - 1)) := by simp only [World.cell?, HA]; rfl
      have OBH : (Value.slice (some ⟨g, off + 1, none⟩) 1 (ck - 1)).ownBlock ≠ some h := fun e => by
        have : g = h := by simpa [Value.ownBlock] using e
        have := HPK.out.2.2
        have := HHW.out
        omega
      have OBT : (Value.slice (some ⟨g, off + 1, none⟩) 1 (ck - 1)).ownBlock ≠ some wr.heap.size := fun e => by
        have : g = wr.heap.size := by simpa [Value.ownBlock] using e
        have := HPK.out.2.1
        omega
      have hx7 : BS wr.heap.size (w6.alloc (.cells #[.int .i64 2, .slice pa P.length pc, .slice none 0 0, .slice (some ⟨g, off + 1, none⟩) 1 (ck - 1)] 25)) := BS_gb (r := none) (BS_new wr) (gb_below b67) nofun
      have oT7 : (w6.alloc (.cells #[.int .i64 2, .slice pa P.length pc, .slice none 0 0, .slice (some ⟨g, off + 1, none⟩) 1 (ck - 1)] 25)).ownsRow wr.heap.size 25 4 (.slice (some ⟨wr.heap.size, 0, none⟩) 1 1) 1 [.int .i64 0, .slice none 0 0, .slice none 0 0, .slice none 0 0] := ownb oT b67
      have l7 : Below w.heap.size w (w6.alloc (.cells #[.int .i64 2, .slice pa P.length pc, .slice none 0 0, .slice (some ⟨g, off + 1, none⟩) 1 (ck - 1)] 25)) := HLR.out.trans ((bT.trans (b67.mono bT.size)).mono HLR.out.size)
      obtain ⟨G, cap, w8, hap, ho8, hgr⟩ := app_sh 48 (.int .i64 2) (.slice pa P.length pc) (.slice none 0 0) (.slice (some ⟨g, off + 1, none⟩) 1 (ck - 1)) rfl rfl rfl rfl oT7 n0 n1 n2 n3 (by have := bT.size; have := b67.size; omega)
      have hgr : (w6.alloc (.cells #[.int .i64 2, .slice pa P.length pc, .slice none 0 0, .slice (some ⟨g, off + 1, none⟩) 1 (ck - 1)] 25)).grownBy w8 (some wr.heap.size) := hgr
      have hhw : h < wr.heap.size := HXR.out.hi
      have HL8 : Hid (Below w.heap.size w w8) := l7.trans ⟨hgr.os, hgr.tape, hgr.output, hgr.size, fun j hj => hgr.block j (by have := l7.size; omega) (fun e => by injection e with e; have := HLR.out.size; omega)⟩
      have HX8 : Hid (BS h w8) := BS_gb (BS_gb (r := none) HXR.out (gb_below (bT.trans (b67.mono bT.size))) nofun) hgr (fun e => by injection e with e; omega)
      have S8 : Sh (2, P, [], [beh]) (.int .i64 2, .slice pa P.length pc, .slice none 0 0, .slice (some ⟨g, off + 1, none⟩) 1 (ck - 1)) w8 := Sh_gb ⟨rfl, Sl_below s6 b7, Sl_nil _, Ls_below lk b7⟩ (BS_nb hx7) OBT hgr
      have HCC : Hid (G < w8.heap.size ∧ ∀ j, j < 2 → ∃ k p1 p2 p3 p4 p5 p6 p7 p8 p9, Sh (ss.getD j zS) (.int .i64 k, .slice p1 p2 p3, .slice p4 p5 p6, .slice p7 p8 p9) w8 ∧ (Value.slice p7 p8 p9).ownBlock ≠ some h ∧ w8.cell? ⟨G, j * 4, none⟩ = some (.int .i64 k) ∧ w8.cell? ⟨G, j * 4 + 1, none⟩ = some (.slice p1 p2 p3) ∧ w8.cell? ⟨G, j * 4 + 2, none⟩ = some (.slice p4 p5 p6) ∧ w8.cell? ⟨G, j * 4 + 3, none⟩ = some (.slice p7 p8 p9)) := by
        obtain ⟨gT, cT, eT, _, hgT, hcT⟩ := own_cellz ho8 (by decide)
        injection eT with eT _ _
        injection eT with eT
        injection eT with eT _ _
        subst eT
        refine ⟨hgT, fun j hj => ?_⟩
        have hj2 : j = 0 ∨ j = 1 := by omega
        rcases hj2 with rfl | rfl
        · exact ⟨0, none, 0, 0, none, 0, 0, none, 0, 0, by rw [hss.out]; exact ⟨rfl, Sl_nil _, Sl_nil _, Ls_nil' _⟩, nofun, hcT 0 _ rfl, hcT 1 _ rfl, hcT 2 _ rfl, hcT 3 _ rfl⟩
        · exact ⟨_, _, _, _, _, _, _, _, _, _, by rw [hss.out, ← EBH.out]; exact S8, OBH, hcT 4 _ rfl, hcT 5 _ rfl, hcT 6 _ rfl, hcT 7 _ rfl⟩
      have hlen : Hid (ss.length = 2) := by show _ = _; rw [hss.out]; rfl
      clear b7 b67 HA n0 n1 n2 n3 hx7 oT7 l7 ho8 hgr S8 s6 b6 bT oT s1' HS1 HPK HLR HXR hhw OBH OBT lk HRF HCP HNK HHW HWR
      generalize P.length = pl at *
      generalize beh.length = bl at *
      go_upto_region 18 with (at_builtin; refine wpList_apw rfl rfl rfl rfl hap ?_)
      have HB8 : Hid (∀ wx, Below w8.heap.size w8 wx → Sl b (.slice a n c) wx) := fun wx hbx => hb.out wx (HL8.out.trans (hbx.mono HL8.out.size))
      clear hb
      go_wp2_with fail
      go_loopw [81] (fun s wx => ∃ j : Nat, j ≤ 2 ∧ s = .int .i64 (j : Int) ∧ Hid ((∀ i, i < j → fits b (ss.getD i zS) = false) ∧ Below w8.heap.size w8 wx)) (fun s _ => ((2 : Int) - intOf s).toNat)
      case atStart => exact ⟨0, Nat.zero_le _, rfl, fun i hi => absurd hi (by omega), Below.refl _ _⟩
      case round =>
        rename World => wx
        obtain ⟨j, hj, rfl, HJ⟩ := hrel
        by_cases j1 : j < 2
        · have d0 : (j : Int) < 2 := by omega
          have d1 : (0 : Int) ≤ (j : Int) := by omega
          have hw := Nb.stp j (by show _ ≤ _; omega)
          obtain ⟨k, p1, p2, p3, p4, p5, p6, p7, p8, p9, sh, ob, y0, y1, y2, y3⟩ := HCC.out.2 j j1
          have r0 := (HJ.out.2.cell (p := ⟨G, j * 4, none⟩) HCC.out.1).trans y0
          have r1 := (HJ.out.2.cell (p := ⟨G, j * 4 + 1, none⟩) HCC.out.1).trans y1
          have r2 := (HJ.out.2.cell (p := ⟨G, j * 4 + 2, none⟩) HCC.out.1).trans y2
          have r3 := (HJ.out.2.cell (p := ⟨G, j * 4 + 3, none⟩) HCC.out.1).trans y3
          have bA : Below wx.heap.size wx (wx.alloc (.cells #[.int .i64 k, .slice p1 p2 p3, .slice p4 p5 p6, .slice p7 p8 p9] 25)) := (Below.refl _ _).alloc (Nat.le_refl _) _
          have b8 := HJ.out.2.trans (bA.mono HJ.out.2.size)
          obtain ⟨s, hs'⟩ : ∃ s, s = ss.getD j zS := ⟨_, rfl⟩
          have HS : Hid (s = ss.getD j zS) := hs'
          rw [← hs'] at sh
          have hjs : j < ss.length := by rw [hlen.out]; exact j1
          have hmem : s ∈ ss := by rw [hs', List.getD_eq_getElem?_getD, List.getElem?_eq_getElem hjs]; exact List.getElem_mem _
          have HJL : Hid (j < ss.length) := hjs
          have shA := Sh_below (Sh_below sh HJ.out.2) bA
          have KC : Hid _ := KH.out s (.int .i64 k, .slice p1 p2 p3, .slice p4 p5 p6, .slice p7 p8 p9) _ hmem shA
          have HSA : Hid (Sh s (.int .i64 k, .slice p1 p2 p3, .slice p4 p5 p6, .slice p7 p8 p9) (wx.alloc (.cells #[.int .i64 k, .slice p1 p2 p3, .slice p4 p5 p6, .slice p7 p8 p9] 25))) := shA
          have HOB : Hid ((Value.slice p7 p8 p9).ownBlock ≠ some h) := ob
          have HA := heap_alloc_new wx (.cells #[.int .i64 k, .slice p1 p2 p3, .slice p4 p5 p6, .slice p7 p8 p9] 25)
          have q0 : (wx.alloc (.cells #[.int .i64 k, .slice p1 p2 p3, .slice p4 p5 p6, .slice p7 p8 p9] 25)).cell? ⟨wx.heap.size, 0, none⟩ = some (.int .i64 k) := by simp only [World.cell?, HA]; rfl
          have q1 : (wx.alloc (.cells #[.int .i64 k, .slice p1 p2 p3, .slice p4 p5 p6, .slice p7 p8 p9] 25)).cell? ⟨wx.heap.size, 1, none⟩ = some (.slice p1 p2 p3) := by simp only [World.cell?, HA]; rfl
          have q2 : (wx.alloc (.cells #[.int .i64 k, .slice p1 p2 p3, .slice p4 p5 p6, .slice p7 p8 p9] 25)).cell? ⟨wx.heap.size, 2, none⟩ = some (.slice p4 p5 p6) := by simp only [World.cell?, HA]; rfl
          have q3 : (wx.alloc (.cells #[.int .i64 k, .slice p1 p2 p3, .slice p4 p5 p6, .slice p7 p8 p9] 25)).cell? ⟨wx.heap.size, 3, none⟩ = some (.slice p7 p8 p9) := by simp only [World.cell?, HA]; rfl
          have hwA : wx.heap.size < (wx.alloc (.cells #[.int .i64 k, .slice p1 p2 p3, .slice p4 p5 p6, .slice p7 p8 p9] 25)).heap.size := by simp
          have HB9 : Hid (Below w8.heap.size w8 (wx.alloc (.cells #[.int .i64 k, .slice p1 p2 p3, .slice p4 p5 p6, .slice p7 p8 p9] 25))) := b8
          have HFN : Hid (∀ i, i < j → fits b (ss.getD i zS) = false) := HJ.out.1
          clear sh ob y0 y1 y2 y3 bA b8 hs' hjs hmem shA HA HJ
          dsimp only [v4] at KC
          go_upto_region 21 with fail
          generalize wx.alloc (.cells #[.int .i64 k, .slice p1 p2 p3, .slice p4 p5 p6, .slice p7 p8 p9] 25) = w9 at *
          generalize wx.heap.size = g9 at *
          clear r0 r1 r2 r3
          go_wp2_with fail
          refine Calls.mono KC.out ?_
          rintro e w10 ⟨v, rfl, sc, bc⟩
          obtain ⟨va, vc, rfl⟩ := Sl_fm sc
          have HB10 : Hid (Below w8.heap.size w8 w10) := HB9.out.trans (bc.mono HB9.out.size)
          have HS10 : Hid (Sh s (.int .i64 k, .slice p1 p2 p3, .slice p4 p5 p6, .slice p7 p8 p9) w10) := Sh_below HSA.out bc
          have t0 := (bc.cell (p := ⟨g9, 0, none⟩) hwA).trans q0
          have t1 := (bc.cell (p := ⟨g9, 1, none⟩) hwA).trans q1
          have t2 := (bc.cell (p := ⟨g9, 2, none⟩) hwA).trans q2
          have t3 := (bc.cell (p := ⟨g9, 3, none⟩) hwA).trans q3
          have cv1 := Sl_bst sc
          have cv2 := Sl_bst (HB8.out w10 HB10.out)
          have HFT : fits b s = false → Hid (∀ i, i < j + 1 → fits b (ss.getD i zS) = false) := fun e i hi => by
            by_cases e2 : i = j
            · subst e2; rw [← HS.out]; exact e
            · exact HFN.out i (by omega)
          clear bc sc KC HSA HB9 q0 q1 q2 q3 hwA
          cases hI : isS s with
          | false =>
            have e1 : he s = 1 := by unfold he; rw [hI]; rfl
            have HF := HFT (by unfold fits; rw [hI]; rfl)
            rw [e1]
            clear HFT hI e1 cv1 cv2 t0 t1 t2 t3
            generalize (hc s).length = hl at *
            go_wp2_with fail
            have hw := hw.out
            go_roundw
            case rel => exact ⟨j + 1, j1, Nb.step_v j _ rfl, HF.out, HB10.out⟩
            case measure => exact Nb.msr j 2 j1 _ rfl
          | true =>
            have e1 : he s = 0 := by unfold he; rw [hI]; rfl
            have e2 : hc s = enc (itS s) := by unfold hc; rw [hI]; rfl
            have ef : fits b s = decide (hc s = b) := by unfold fits; rw [hI, e2]; rfl
            rw [e1]
            by_cases eb : hc s = b
            · have hq : ((bst (hc s)).toList == (bst b).toList) = true := by rw [eb]; exact beq_self_eq_true _
              have HFF : Hid (fnd b ss = (s, 0)) := by
                show _ = _
                unfold fnd
                rw [find_at (fits b) zS ss j HJL.out HFN.out (by rw [← HS.out, ef]; exact decide_eq_true eb), ← HS.out]
              clear HFT hI e1 e2 ef eb hw
              generalize (hc s).length = hl at *
              generalize bst (hc s) = X1 at *
              generalize bst b = X2 at *
              have x10 : BS h w10 := BS_gb (r := none) HX8.out (gb_below HB10.out) nofun
              go_upto_region 23 with fail
              go_wp2_with (refine wpList_stS rfl rfl rfl rfl x10 ?_)
              intro w6 g6 z0 z1 z2 z3
              have l5 := HL8.out.trans (HB10.out.mono HL8.out.size)
              have l6 : Hid (Below w.heap.size w w6) := l5.trans ⟨g6.os, g6.tape, g6.output, g6.size, fun j hj => g6.block j (by have := l5.size; omega) (fun e => by injection e with e; have := EH.out; omega)⟩
              have S6 : Hid (Sh s (.int .i64 k, .slice p1 p2 p3, .slice p4 p5 p6, .slice p7 p8 p9) w6) := Sh_gb HS10.out (BS_nb x10) HOB.out g6
              clear g6 x10 l5 t0 t1 t2 t3 cv1 cv2
              go_wp2_with fail
              exact bodyPost_ret (v := .tuple #[.agg #[.int .i64 k, .slice p1 p2 p3, .slice p4 p5 p6, .slice p7 p8 p9], .int .i64 0]) (resS2 _ _ _ h 2 3 _ _ _ _ _ rfl rfl rfl z0 z1 z2 z3) rfl (by rw [HFF.out]; exact ⟨(.int .i64 k, .slice p1 p2 p3, .slice p4 p5 p6, .slice p7 p8 p9), rfl, S6.out, l6.out, ⟨_, _, _, _, _, _, _, _, _, _, rfl⟩⟩)
            · have HF := HFT (by rw [ef]; exact decide_eq_false eb)
              have hq : ((bst (hc s)).toList == (bst b).toList) = false := (bs_eq (hc s) b).trans (decide_eq_false eb)
              clear HFT hI e1 e2 ef eb t0 t1 t2 t3
              generalize (hc s).length = hl at *
              generalize bst (hc s) = X1 at *
              generalize bst b = X2 at *
              go_wp2_with fail
              have hw := hw.out
              go_roundw
              case rel => exact ⟨j + 1, j1, Nb.step_v j _ rfl, HF.out, HB10.out⟩
              case measure => exact Nb.msr j 2 j1 _ rfl
        · have hkl : j = 2 := by omega
          subst hkl
          have HFF : Hid (fnd b ss = (zS, 1)) := by
            show _ = _
            unfold fnd
            rw [find_no (fits b) zS ss (fun i hi => HJ.out.1 i (by rw [hlen.out] at hi; exact hi))]
          have x10 : BS h wx := BS_gb (r := none) HX8.out (gb_below HJ.out.2) nofun
          have l5 := HL8.out.trans (HJ.out.2.mono HL8.out.size)
          clear j1 hj HJ
          go_upto_region 25 with fail
          go_wp2_with (refine wpList_stS rfl rfl rfl rfl x10 ?_)
          intro w6 g6 z0 z1 z2 z3
          have l6 : Hid (Below w.heap.size w w6) := l5.trans ⟨g6.os, g6.tape, g6.output, g6.size, fun j hj => g6.block j (by have := l5.size; omega) (fun e => by injection e with e; have := EH.out; omega)⟩
          clear g6 x10 l5
          go_wp2_with fail
          exact bodyPost_ret (v := .tuple #[.agg #[.int .i64 0, .slice none 0 0, .slice none 0 0, .slice none 0 0], .int .i64 1]) (resS2 _ _ _ h 2 3 _ _ _ _ _ rfl rfl rfl z0 z1 z2 z3) rfl (by rw [HFF.out]; exact ⟨(.int .i64 0, .slice none 0 0, .slice none 0 0, .slice none 0 0), rfl, ⟨rfl, Sl_nil _, Sl_nil _, Ls_nil' _⟩, l6.out, ⟨_, _, _, _, _, _, _, _, _, _, rfl⟩⟩)
set_option maxHeartbeats 8000000 in
set_option maxRecDepth 100000 in
theorem hr_fork (b : List UInt8) (a : Option Addr) (n c : Nat) (w : World) (ks : List It) (ss : List Shp) (hb : Hid (∀ wx, Below w.heap.size w wx → Sl b (.slice a n c) wx))
    (KD : Hid (∀ wx : World, Below w.heap.size w wx → Calls Try.prog 14 #[.slice a n c] wx fun e w' => ∃ lb a1 n1 c1 a2 n2 c2 hs, e = .returned (.tuple #[.agg #[.bool lb, .slice a1 n1 c1, .slice a2 n2 c2], .int .i64 0]) ∧ KV ks a2 n2 w' hs ∧ Below wx.heap.size wx w')) (hz : Hid (ks.length ≤ 1048576))
    (KH : Hid (∀ (s : Shp) (x : V4) (wx : World), s ∈ ss → Sh s x wx → Calls Try.prog 16 #[v4 x] wx fun e w' => ∃ v, e = .returned (.tuple #[v, .int .i64 (he s)]) ∧ Sl (hc s) v w' ∧ Below wx.heap.size wx w')) (hss : Hid (ss = [zS, (3, [], (ks.map txt).getD 16 [], (ks.map txt).take 16)])) (h2 : Hid (ks.length = 17)) :
    Calls Try.prog 6 #[.slice a n c] w (PR w (fnd b ss).1 (fnd b ss).2) := by
  have x0 := BS_new w
  have l0 : Below w.heap.size w (w.alloc (.cells #[.int .i64 0, .slice none 0 0, .slice none 0 0, .slice none 0 0] 25)) := (Below.refl _ _).alloc (Nat.le_refl _) _
  go_enter Try.func6, Try.ntmps6
  go_upto_region 1 with fail
  generalize w.alloc (.cells #[.int .i64 0, .slice none 0 0, .slice none 0 0, .slice none 0 0] 25) = W0 at *
  obtain ⟨h, eh⟩ : ∃ h, h = w.heap.size := ⟨_, rfl⟩
  have EH : Hid (h = w.heap.size) := eh
  rw [← eh] at x0 ⊢
  clear eh
  go_wp2_with fail
  refine (KD.out _ l0).mono ?_
  rintro e w1 ⟨lb, b1, n1, c1, a2, n2, c2, hs, rfl, hk, bb⟩
  have l1 : Below w.heap.size w w1 := l0.trans (bb.mono l0.size)
  have x1 : BS h w1 := BS_gb (r := none) x0 (gb_below bb) nofun
  have bA : Below w1.heap.size w1 (w1.alloc (.cells #[.bool lb, .slice b1 n1 c1, .slice a2 n2 c2] 42)) := (Below.refl _ _).alloc (Nat.le_refl _) _
  have HL2 : Hid (Below w.heap.size w (w1.alloc (.cells #[.bool lb, .slice b1 n1 c1, .slice a2 n2 c2] 42))) := l1.trans (bA.mono l1.size)
  have HX2 : Hid (BS h (w1.alloc (.cells #[.bool lb, .slice b1 n1 c1, .slice a2 n2 c2] 42))) := BS_gb (r := none) x1 (gb_below bA) nofun
  have HK : Hid (KV ks a2 n2 w1 hs) := hk
  have BA : Hid (Below w1.heap.size w1 (w1.alloc (.cells #[.bool lb, .slice b1 n1 c1, .slice a2 n2 c2] 42))) := bA
  clear KD l0 bb x0 x1 l1 hk bA
  have HN : Hid (n2 = ks.length) := HK.out.e
  have HLN : Hid (hs.length = n2) := by show _ = _; rw [HK.out.h.l, List.length_map]; exact HN.out.symm
  go_wp2_with fail
  generalize w1.alloc (.cells #[.bool lb, .slice b1 n1 c1, .slice a2 n2 c2] 42) = w2 at *
  go_loopw [6, 28] (fun v i wr => ∃ k : Nat, k ≤ n2 ∧ i = .int .i64 (k : Int) ∧ Hid (wr.ownsRow w2.heap.size 22 1 v (hs.take k).length (hs.take k) ∧ Below w2.heap.size w2 wr)) (fun _ i _ => ((n2 : Int) - intOf i).toNat)
  case atStart => exact ⟨0, Nat.zero_le _, rfl, World.ownsRow_nil _ _ _ _, Below.refl _ _⟩
  case round =>
    obtain ⟨k, hk1, rfl, HI⟩ := hrel
    obtain ⟨ak, nk, ck, rfl⟩ := own_form HI.out.1
    have BW : Hid (Below w1.heap.size w1 wr) := BA.out.trans (HI.out.2.mono BA.out.size)
    by_cases h1 : k < n2
    · have d0 : (k : Int) < (n2 : Int) := by omega
      have d1 : (0 : Int) ≤ (k : Int) := by omega
      have hw := Nb.stp k (by have := hz.out; have := HN.out; show _ ≤ _; omega)
      obtain ⟨g, off, rfl, hg, hcc⟩ := HK.out.c (by omega)
      obtain ⟨x1, y1, x2, m2, y2, e1, k0, k1, k2⟩ := hcc k h1
      have r0 := (BW.out.cell (p := ⟨g, off + k * 3, none⟩) hg).trans k0
      have r1 := (BW.out.cell (p := ⟨g, off + k * 3 + 1, none⟩) hg).trans k1
      have r2 := (BW.out.cell (p := ⟨g, off + k * 3 + 2, none⟩) hg).trans k2
      have HK1 : Hid (k < n2) := h1
      have hkh : k < hs.length := by have := HLN.out; omega
      have HTK : Hid (hs.take (k + 1) = hs.take k ++ [.slice x1 (txt (ks.getD k It.no)).length y1]) := by
        show _ = _
        rw [List.take_add_one, List.getElem?_eq_getElem hkh]
        have : hs[k] = .slice x1 (txt (ks.getD k It.no)).length y1 := by rw [← e1, List.getD_eq_getElem?_getD, List.getElem?_eq_getElem hkh]; rfl
        rw [this]
        rfl
      clear hg hcc k0 k1 k2 e1 hkh BW
      generalize (txt (ks.getD k It.no)).length = mk at *
      generalize isL (ks.getD k It.no) = lk at *
      have bA : Below wr.heap.size wr (wr.alloc (.cells #[.bool lk, .slice x1 mk y1, .slice x2 m2 y2] 42)) := (Below.refl _ _).alloc (Nat.le_refl _) _
      have hs1 : (wr.alloc (.cells #[.bool lk, .slice x1 mk y1, .slice x2 m2 y2] 42)).heap.size = wr.heap.size + 1 := by simp
      have bB : Below wr.heap.size wr ((wr.alloc (.cells #[.bool lk, .slice x1 mk y1, .slice x2 m2 y2] 42)).alloc (.cells #[.slice x1 mk y1] 22)) := bA.alloc (by omega) _
      have hnw := heap_alloc_new (wr.alloc (.cells #[.bool lk, .slice x1 mk y1, .slice x2 m2 y2] 42)) (.cells #[.slice x1 mk y1] 22)
      rw [hs1] at hnw
      have oB : ((wr.alloc (.cells #[.bool lk, .slice x1 mk y1, .slice x2 m2 y2] 42)).alloc (.cells #[.slice x1 mk y1] 22)).ownsRow w2.heap.size 22 1 (.slice ak nk ck) (hs.take k).length (hs.take k) := (HI.out.1.alloc _).alloc _
      have vB : Vl [.slice x1 mk y1] (.slice (some ⟨wr.heap.size + 1, 0, none⟩) 1 1) ((wr.alloc (.cells #[.bool lk, .slice x1 mk y1, .slice x2 m2 y2] 42)).alloc (.cells #[.slice x1 mk y1] 22)) := ⟨_, 1, rfl, fun _ => ⟨_, 0, rfl, by simp, fun j hj => by
        have : j = 0 := by simp at hj; omega
        subst this
        simp only [World.cell?, hnw]
        rfl⟩⟩
      have hbw := HI.out.2.size
      obtain ⟨v', w', hap, ho', hb'⟩ := appv_r (ys := [.slice x1 mk y1]) 23 oB vB (fun u hu => by rw [List.mem_singleton.1 hu]; rfl) (by have := bB.size; omega) (by rw [List.length_take]; have := hz.out; have := HN.out; simp; omega)
      rw [← HTK.out] at ho'
      obtain ⟨ak2, nk2, ck2, rfl⟩ := own_form ho'
      have HI7 : Hid (w'.ownsRow w2.heap.size 22 1 (.slice ak2 nk2 ck2) (hs.take (k + 1)).length (hs.take (k + 1)) ∧ Below w2.heap.size w2 w') := ⟨ho', (HI.out.2.trans (bB.mono hbw)).trans hb'⟩
      clear HI HTK bA bB hs1 hnw oB vB hbw ho' hb'
      go_wp2_with (at_builtin; refine wpList_apw rfl rfl rfl rfl hap ?_)
      have hw := hw.out
      go_roundw
      case rel => exact ⟨k + 1, HK1.out, Nb.step_v k _ hw, HI7⟩
      case measure => exact Nb.msr k n2 HK1.out _ hw
    · have hkl : k = n2 := by omega
      have ex : hs.take k = hs := by rw [hkl, ← HLN.out, List.take_length]
      have ho := HI.out.1
      rw [ex] at ho
      have HLS : Hid (Ls (ks.map txt) (.slice ak nk ck) wr) := own_ls ho (Hds_below HK.out.h BW.out)
      have HRF : Hid (Rf w2.heap.size (.slice ak nk ck)) := rf_own ho
      have HCP : Hid (nk ≤ ck) := own_cap ho
      have HNK : Hid (nk = ks.length) := by
        obtain ⟨_, _, e⟩ := own_len ho
        injection e with _ e _
        show _ = _
        rw [e, HLN.out]; exact HN.out
      have HLR : Hid (Below w.heap.size w wr) := HL2.out.trans (HI.out.2.mono HL2.out.size)
      have HXR : Hid (BS h wr) := BS_gb (r := none) HX2.out (gb_below HI.out.2) nofun
      have HHW : Hid (h < w2.heap.size) := HX2.out.hi
      have HWR : Hid (w2.heap.size ≤ wr.heap.size) := HI.out.2.size
      clear HI BW ho ex h1 hk1 HK HL2 HX2 BA HN HLN
      subst hkl
      have e2 : nk = 17 := by rw [HNK.out]; exact h2.out
      subst e2
      obtain ⟨ax, cx, ex, hL⟩ := HLS.out
      injection ex with e1 e9 e3
      clear e9
      subst e1 e3
      obtain ⟨g, off, eA, hg, hcc⟩ := hL (by rw [List.length_map, h2.out]; decide)
      subst eA
      have hg2 : w2.heap.size ≤ g := HRF.out g rfl
      have hck := HCP.out
      have bT : Below wr.heap.size wr (wr.alloc (.cells #[.int .i64 0, .slice none 0 0, .slice none 0 0, .slice none 0 0] 25)) := (Below.refl _ _).alloc (Nat.le_refl _) _
      have oT := own_t wr wr.heap.size (Nat.le_refl _)
      obtain ⟨v0, k0, s0⟩ := hcc 16 (by rw [List.length_map, h2.out]; decide)
      obtain ⟨b0, d0, rfl⟩ := Sl_fm s0
      have HS0 : Hid (Sl ((ks.map txt).getD 16 []) (.slice b0 ((ks.map txt).getD 16 []).length d0) wr) := s0
      have HL16 : Hid (Ls ((ks.map txt).take 16) (.slice (some ⟨g, off, none⟩) 16 ck) wr) := ⟨_, ck, by rw [List.length_take, List.length_map, h2.out]; rfl, fun _ => ⟨g, off, rfl, hg, fun i hi => by
        rw [List.length_take, List.length_map, h2.out] at hi
        obtain ⟨vi, q1, q2⟩ := hcc i (by rw [List.length_map, h2.out]; omega)
        refine ⟨vi, q1, ?_⟩
        rw [List.getD_eq_getElem?_getD, List.getElem?_take, if_pos (by omega), ← List.getD_eq_getElem?_getD]
        exact q2⟩⟩
      have kT := (bT.cell (p := ⟨g, off + 16, none⟩) hg).trans k0
      have HBT : Hid (Below wr.heap.size wr (wr.alloc (.cells #[.int .i64 0, .slice none 0 0, .slice none 0 0, .slice none 0 0] 25))) := bT
      have HOT : Hid ((wr.alloc (.cells #[.int .i64 0, .slice none 0 0, .slice none 0 0, .slice none 0 0] 25)).ownsRow wr.heap.size 25 4 (.slice (some ⟨wr.heap.size, 0, none⟩) 1 1) 1 [.int .i64 0, .slice none 0 0, .slice none 0 0, .slice none 0 0]) := oT
      have HBN : Hid (BS wr.heap.size (wr.alloc (.cells #[.int .i64 0, .slice none 0 0, .slice none 0 0, .slice none 0 0] 25))) := BS_new wr
      have HPK0 : Hid (g < wr.heap.size ∧ w2.heap.size ≤ g) := ⟨hg, hg2⟩
      have HPK : Hid (g < (wr.alloc (.cells #[.int .i64 0, .slice none 0 0, .slice none 0 0, .slice none 0 0] 25)).heap.size ∧ (wr.alloc (.cells #[.int .i64 0, .slice none 0 0, .slice none 0 0, .slice none 0 0] 25)).cell? ⟨g, off + 16, none⟩ = some (.slice b0 ((ks.map txt).getD 16 []).length d0)) := ⟨Nat.lt_of_lt_of_le hg bT.size, kT⟩
      clear hL hcc k0 s0 hg hg2 bT oT HLS kT
      obtain ⟨val, hval⟩ : ∃ val, val = (ks.map txt).getD 16 [] := ⟨_, rfl⟩
      rw [← hval] at HS0 HPK
      have EVL : Hid (val = (ks.map txt).getD 16 []) := hval
      clear hval
      obtain ⟨m0, hm0⟩ : ∃ m0, m0 = val.length := ⟨_, rfl⟩
      rw [← hm0] at HS0 HPK
      clear hm0
      have c1c : (17 : Int) ≤ (ck : Int) := by omega
      have c1d : (16 : Int) ≤ (ck : Int) := by omega
      go_upto_region 17 with fail
      generalize wr.alloc (.cells #[.int .i64 0, .slice none 0 0, .slice none 0 0, .slice none 0 0] 25) = w5 at *
      have hL : RG.Lasts (fun wx => Below w5.heap.size w5 wx) (fun _ v wx => ∃ g7, v = .slice (some ⟨g7, 0, none⟩) 1 1 ∧ g7 < wx.heap.size ∧ wx.cell? ⟨g7, 0, none⟩ = some (.int .i64 3) ∧ wx.cell? ⟨g7, 1, none⟩ = some (.slice none 0 0) ∧ wx.cell? ⟨g7, 2, none⟩ = some (.slice b0 m0 d0) ∧ wx.cell? ⟨g7, 3, none⟩ = some (.slice (some ⟨g, off, none⟩) 16 ck)) := ⟨fun _ _ h hb => h.trans (hb.mono h.size), fun _ _ _ _ h hb => by
        obtain ⟨g7, e0, e1, e2, e3, e4, e5⟩ := h
        exact ⟨g7, e0, Nat.lt_of_lt_of_le e1 hb.size, (hb.cell (p := ⟨g7, 0, none⟩) e1).trans e2, (hb.cell (p := ⟨g7, 1, none⟩) e1).trans e3, (hb.cell (p := ⟨g7, 2, none⟩) e1).trans e4, (hb.cell (p := ⟨g7, 3, none⟩) e1).trans e5⟩⟩
      refine RG.wp_region_gen (fun wx => Below w5.heap.size w5 wx) (fun _ v wx => ∃ g7, v = .slice (some ⟨g7, 0, none⟩) 1 1 ∧ g7 < wx.heap.size ∧ wx.cell? ⟨g7, 0, none⟩ = some (.int .i64 3) ∧ wx.cell? ⟨g7, 1, none⟩ = some (.slice none 0 0) ∧ wx.cell? ⟨g7, 2, none⟩ = some (.slice b0 m0 d0) ∧ wx.cell? ⟨g7, 3, none⟩ = some (.slice (some ⟨g, off, none⟩) 16 ck)) (fun _ _ => True) [0, 0, 0, 0, 0, 0, 0, 1, 2, 2] (by kernel_rfl) (by kernel_rfl) ((Below.refl _ _).drew) ?_
      dsimp only [List.toList_toArray]
      refine RG.go1 (v := ?_) (a' := ?_) hL (by decide) rfl ?_ ?_ ?_
      rotate_left 2
      · intro K wx hS hK
        go_simp
        exact hK _ (Below.refl _ _)
      · simp only [Act.put, List.setIfInBounds_toArray, List.set_cons_succ, List.set_cons_zero]
        rfl
      refine RG.go1 (v := ?_) (a' := ?_) hL (by decide) rfl ?_ ?_ ?_
      rotate_left 2
      · intro K wx hS hK
        go_simp
        exact hK _ (Below.refl _ _)
      · simp only [Act.put, List.setIfInBounds_toArray, List.set_cons_succ, List.set_cons_zero]
        rfl
      refine RG.go1 (v := ?_) (a' := ?_) hL (by decide) rfl ?_ ?_ ?_
      rotate_left 2
      · intro K wx hS hK
        go_simp
        exact hK _ (Below.refl _ _)
      · simp only [Act.put, List.setIfInBounds_toArray, List.set_cons_succ, List.set_cons_zero]
        rfl
      refine RG.go1 (v := ?_) (a' := ?_) hL (by decide) rfl ?_ ?_ ?_
      rotate_left 2
      · intro K wx hS hK
        go_simp
        exact hK _ (Below.refl _ _)
      · simp only [Act.put, List.setIfInBounds_toArray, List.set_cons_succ, List.set_cons_zero]
        rfl
      refine RG.go1 (v := ?_) (a' := ?_) hL (by decide) rfl ?_ ?_ ?_
      rotate_left 2
      · intro K wx hS hK
        go_simp
        exact hK _ (Below.refl _ _)
      · simp only [Act.put, List.setIfInBounds_toArray, List.set_cons_succ, List.set_cons_zero]
        rfl
      refine RG.go1 (v := ?_) (a' := ?_) hL (by decide) rfl ?_ ?_ ?_
      rotate_left 2
      · intro K wx hS hK
        have z0 := (hS.cell (p := ⟨g, off + 16, none⟩) HPK.out.1).trans HPK.out.2
        go_simp
        exact hK _ (Below.refl _ _)
      · simp only [Act.put, List.setIfInBounds_toArray, List.set_cons_succ, List.set_cons_zero]
        rfl
      refine RG.go1 (v := ?_) (a' := ?_) hL (by decide) rfl ?_ ?_ ?_
      rotate_left 2
      · intro K wx hS hK
        go_simp
        exact hK _ (Below.refl _ _)
      · simp only [Act.put, List.setIfInBounds_toArray, List.set_cons_succ, List.set_cons_zero]
        rfl
      refine RG.goN hL rfl ?_ ?_
      · intro K wx hS hK
        have hn := heap_alloc_new wx (.cells #[.int .i64 3, .slice none 0 0, .slice b0 m0 d0, .slice (some ⟨g, off, none⟩) 16 ck] 25)
        go_simp
        exact hK _ _ ((Below.refl _ _).alloc (Nat.le_refl _) _) ⟨_, rfl, by simp, by simp only [World.cell?, hn]; rfl, by simp only [World.cell?, hn]; rfl, by simp only [World.cell?, hn]; rfl, by simp only [World.cell?, hn]; rfl⟩ (fun _ _ _ => ⟨trivial, trivial⟩)
      refine RG.goT ?_
      refine RG.goT ?_
      refine RG.go_end ?_
      intro U w7 m7 y7 x7
      simp +decide (maxSteps := 1000000) only [RG.tl, RG.putN, if_true, if_false, Act.put, List.setIfInBounds_toArray, List.set_cons_succ, List.set_cons_zero, Nat.reduceAdd]
      obtain ⟨g7, e7, _, n0, n1, n2, n3⟩ := y7 7 rfl
      have bT := HBT.out
      have oT := HOT.out
      have OBH : (Value.slice (some ⟨g, off, none⟩) 16 ck).ownBlock ≠ some h := fun e => by
        have : g = h := by simpa [Value.ownBlock] using e
        have := HPK0.out.2
        have := HHW.out
        omega
      have OBT : (Value.slice (some ⟨g, off, none⟩) 16 ck).ownBlock ≠ some wr.heap.size := fun e => by
        have : g = wr.heap.size := by simpa [Value.ownBlock] using e
        have := HPK0.out.1
        omega
      have hx7 : BS wr.heap.size w7 := BS_gb (r := none) HBN.out (gb_below m7) nofun
      have oT7 : w7.ownsRow wr.heap.size 25 4 (.slice (some ⟨wr.heap.size, 0, none⟩) 1 1) 1 [.int .i64 0, .slice none 0 0, .slice none 0 0, .slice none 0 0] := ownb oT m7
      have l7 : Below w.heap.size w w7 := HLR.out.trans ((bT.trans (m7.mono bT.size)).mono HLR.out.size)
      obtain ⟨G, cap, w8, hap, ho8, hgr⟩ := app_sh 48 (.int .i64 3) (.slice none 0 0) (.slice b0 m0 d0) (.slice (some ⟨g, off, none⟩) 16 ck) rfl rfl rfl rfl oT7 n0 n1 n2 n3 (by have := bT.size; have := m7.size; omega)
      have hgr : w7.grownBy w8 (some wr.heap.size) := hgr
      have hhw : h < wr.heap.size := HXR.out.hi
      have HL8 : Hid (Below w.heap.size w w8) := l7.trans ⟨hgr.os, hgr.tape, hgr.output, hgr.size, fun j hj => hgr.block j (by have := l7.size; omega) (fun e => by injection e with e; have := HLR.out.size; omega)⟩
      have HX8 : Hid (BS h w8) := BS_gb (BS_gb (r := none) HXR.out (gb_below (bT.trans (m7.mono bT.size))) nofun) hgr (fun e => by injection e with e; omega)
      have S8 : Sh (3, [], val, (ks.map txt).take 16) (.int .i64 3, .slice none 0 0, .slice b0 m0 d0, .slice (some ⟨g, off, none⟩) 16 ck) w8 := Sh_gb ⟨rfl, Sl_nil _, Sl_below (Sl_below HS0.out bT) m7, Ls_below (Ls_below HL16.out bT) m7⟩ (BS_nb hx7) OBT hgr
      have HCC : Hid (G < w8.heap.size ∧ ∀ j, j < 2 → ∃ k p1 p2 p3 p4 p5 p6 p7 p8 p9, Sh (ss.getD j zS) (.int .i64 k, .slice p1 p2 p3, .slice p4 p5 p6, .slice p7 p8 p9) w8 ∧ (Value.slice p7 p8 p9).ownBlock ≠ some h ∧ w8.cell? ⟨G, j * 4, none⟩ = some (.int .i64 k) ∧ w8.cell? ⟨G, j * 4 + 1, none⟩ = some (.slice p1 p2 p3) ∧ w8.cell? ⟨G, j * 4 + 2, none⟩ = some (.slice p4 p5 p6) ∧ w8.cell? ⟨G, j * 4 + 3, none⟩ = some (.slice p7 p8 p9)) := by
        obtain ⟨gT, cT, eT, _, hgT, hcT⟩ := own_cellz ho8 (by decide)
        injection eT with eT _ _
        injection eT with eT
        injection eT with eT _ _
        subst eT
        refine ⟨hgT, fun j hj => ?_⟩
        have hj2 : j = 0 ∨ j = 1 := by omega
        rcases hj2 with rfl | rfl
        · exact ⟨0, none, 0, 0, none, 0, 0, none, 0, 0, by rw [hss.out]; exact ⟨rfl, Sl_nil _, Sl_nil _, Ls_nil' _⟩, nofun, hcT 0 _ rfl, hcT 1 _ rfl, hcT 2 _ rfl, hcT 3 _ rfl⟩
        · exact ⟨_, _, _, _, _, _, _, _, _, _, by rw [hss.out, ← EVL.out]; exact S8, OBH, hcT 4 _ rfl, hcT 5 _ rfl, hcT 6 _ rfl, hcT 7 _ rfl⟩
      have hlen : Hid (ss.length = 2) := by show _ = _; rw [hss.out]; rfl
      rw [e7]
      clear n0 n1 n2 n3 hx7 oT7 l7 ho8 hgr S8 bT oT HS0 HPK HPK0 HLR HXR hhw OBH OBT HRF HCP HNK HHW HWR HL16 HBT HOT HBN m7 y7 x7 hL e7
      go_upto_region 18 with (at_builtin; refine wpList_apw rfl rfl rfl rfl hap ?_)
      have HB8 : Hid (∀ wx, Below w8.heap.size w8 wx → Sl b (.slice a n c) wx) := fun wx hbx => hb.out wx (HL8.out.trans (hbx.mono HL8.out.size))
      clear hb
      go_wp2_with fail
      go_loopw [81] (fun s wx => ∃ j : Nat, j ≤ 2 ∧ s = .int .i64 (j : Int) ∧ Hid ((∀ i, i < j → fits b (ss.getD i zS) = false) ∧ Below w8.heap.size w8 wx)) (fun s _ => ((2 : Int) - intOf s).toNat)
      case atStart => exact ⟨0, Nat.zero_le _, rfl, fun i hi => absurd hi (by omega), Below.refl _ _⟩
      case round =>
        rename World => wx
        obtain ⟨j, hj, rfl, HJ⟩ := hrel
        by_cases j1 : j < 2
        · have d0 : (j : Int) < 2 := by omega
          have d1 : (0 : Int) ≤ (j : Int) := by omega
          have hw := Nb.stp j (by show _ ≤ _; omega)
          obtain ⟨k, p1, p2, p3, p4, p5, p6, p7, p8, p9, sh, ob, y0, y1, y2, y3⟩ := HCC.out.2 j j1
          have r0 := (HJ.out.2.cell (p := ⟨G, j * 4, none⟩) HCC.out.1).trans y0
          have r1 := (HJ.out.2.cell (p := ⟨G, j * 4 + 1, none⟩) HCC.out.1).trans y1
          have r2 := (HJ.out.2.cell (p := ⟨G, j * 4 + 2, none⟩) HCC.out.1).trans y2
          have r3 := (HJ.out.2.cell (p := ⟨G, j * 4 + 3, none⟩) HCC.out.1).trans y3
          have bA : Below wx.heap.size wx (wx.alloc (.cells #[.int .i64 k, .slice p1 p2 p3, .slice p4 p5 p6, .slice p7 p8 p9] 25)) := (Below.refl _ _).alloc (Nat.le_refl _) _
          have b8 := HJ.out.2.trans (bA.mono HJ.out.2.size)
          obtain ⟨s, hs'⟩ : ∃ s, s = ss.getD j zS := ⟨_, rfl⟩
          have HS : Hid (s = ss.getD j zS) := hs'
          rw [← hs'] at sh
          have hjs : j < ss.length := by rw [hlen.out]; exact j1
          have hmem : s ∈ ss := by rw [hs', List.getD_eq_getElem?_getD, List.getElem?_eq_getElem hjs]; exact List.getElem_mem _
          have HJL : Hid (j < ss.length) := hjs
          have shA := Sh_below (Sh_below sh HJ.out.2) bA
          have KC : Hid _ := KH.out s (.int .i64 k, .slice p1 p2 p3, .slice p4 p5 p6, .slice p7 p8 p9) _ hmem shA
          have HSA : Hid (Sh s (.int .i64 k, .slice p1 p2 p3, .slice p4 p5 p6, .slice p7 p8 p9) (wx.alloc (.cells #[.int .i64 k, .slice p1 p2 p3, .slice p4 p5 p6, .slice p7 p8 p9] 25))) := shA
          have HOB : Hid ((Value.slice p7 p8 p9).ownBlock ≠ some h) := ob
          have HA := heap_alloc_new wx (.cells #[.int .i64 k, .slice p1 p2 p3, .slice p4 p5 p6, .slice p7 p8 p9] 25)
          have q0 : (wx.alloc (.cells #[.int .i64 k, .slice p1 p2 p3, .slice p4 p5 p6, .slice p7 p8 p9] 25)).cell? ⟨wx.heap.size, 0, none⟩ = some (.int .i64 k) := by simp only [World.cell?, HA]; rfl
          have q1 : (wx.alloc (.cells #[.int .i64 k, .slice p1 p2 p3, .slice p4 p5 p6, .slice p7 p8 p9] 25)).cell? ⟨wx.heap.size, 1, none⟩ = some (.slice p1 p2 p3) := by simp only [World.cell?, HA]; rfl
          have q2 : (wx.alloc (.cells #[.int .i64 k, .slice p1 p2 p3, .slice p4 p5 p6, .slice p7 p8 p9] 25)).cell? ⟨wx.heap.size, 2, none⟩ = some (.slice p4 p5 p6) := by simp only [World.cell?, HA]; rfl
          have q3 : (wx.alloc (.cells #[.int .i64 k, .slice p1 p2 p3, .slice p4 p5 p6, .slice p7 p8 p9] 25)).cell? ⟨wx.heap.size, 3, none⟩ = some (.slice p7 p8 p9) := by simp only [World.cell?, HA]; rfl
          have hwA : wx.heap.size < (wx.alloc (.cells #[.int .i64 k, .slice p1 p2 p3, .slice p4 p5 p6, .slice p7 p8 p9] 25)).heap.size := by simp
          have HB9 : Hid (Below w8.heap.size w8 (wx.alloc (.cells #[.int .i64 k, .slice p1 p2 p3, .slice p4 p5 p6, .slice p7 p8 p9] 25))) := b8
          have HFN : Hid (∀ i, i < j → fits b (ss.getD i zS) = false) := HJ.out.1
          clear sh ob y0 y1 y2 y3 bA b8 hs' hjs hmem shA HA HJ
          dsimp only [v4] at KC
          go_upto_region 21 with fail
          generalize wx.alloc (.cells #[.int .i64 k, .slice p1 p2 p3, .slice p4 p5 p6, .slice p7 p8 p9] 25) = w9 at *
          generalize wx.heap.size = g9 at *
          clear r0 r1 r2 r3
          go_wp2_with fail
          refine Calls.mono KC.out ?_
          rintro e w10 ⟨v, rfl, sc, bc⟩
          obtain ⟨va, vc, rfl⟩ := Sl_fm sc
          have HB10 : Hid (Below w8.heap.size w8 w10) := HB9.out.trans (bc.mono HB9.out.size)
          have HS10 : Hid (Sh s (.int .i64 k, .slice p1 p2 p3, .slice p4 p5 p6, .slice p7 p8 p9) w10) := Sh_below HSA.out bc
          have t0 := (bc.cell (p := ⟨g9, 0, none⟩) hwA).trans q0
          have t1 := (bc.cell (p := ⟨g9, 1, none⟩) hwA).trans q1
          have t2 := (bc.cell (p := ⟨g9, 2, none⟩) hwA).trans q2
          have t3 := (bc.cell (p := ⟨g9, 3, none⟩) hwA).trans q3
          have cv1 := Sl_bst sc
          have cv2 := Sl_bst (HB8.out w10 HB10.out)
          have HFT : fits b s = false → Hid (∀ i, i < j + 1 → fits b (ss.getD i zS) = false) := fun e i hi => by
            by_cases e2 : i = j
            · subst e2; rw [← HS.out]; exact e
            · exact HFN.out i (by omega)
          clear bc sc KC HSA HB9 q0 q1 q2 q3 hwA
          cases hI : isS s with
          | false =>
            have e1 : he s = 1 := by unfold he; rw [hI]; rfl
            have HF := HFT (by unfold fits; rw [hI]; rfl)
            rw [e1]
            clear HFT hI e1 cv1 cv2 t0 t1 t2 t3
            generalize (hc s).length = hl at *
            go_wp2_with fail
            have hw := hw.out
            go_roundw
            case rel => exact ⟨j + 1, j1, Nb.step_v j _ rfl, HF.out, HB10.out⟩
            case measure => exact Nb.msr j 2 j1 _ rfl
          | true =>
            have e1 : he s = 0 := by unfold he; rw [hI]; rfl
            have e2 : hc s = enc (itS s) := by unfold hc; rw [hI]; rfl
            have ef : fits b s = decide (hc s = b) := by unfold fits; rw [hI, e2]; rfl
            rw [e1]
            by_cases eb : hc s = b
            · have hq : ((bst (hc s)).toList == (bst b).toList) = true := by rw [eb]; exact beq_self_eq_true _
              have HFF : Hid (fnd b ss = (s, 0)) := by
                show _ = _
                unfold fnd
                rw [find_at (fits b) zS ss j HJL.out HFN.out (by rw [← HS.out, ef]; exact decide_eq_true eb), ← HS.out]
              clear HFT hI e1 e2 ef eb hw
              generalize (hc s).length = hl at *
              generalize bst (hc s) = X1 at *
              generalize bst b = X2 at *
              have x10 : BS h w10 := BS_gb (r := none) HX8.out (gb_below HB10.out) nofun
              go_upto_region 23 with fail
              go_wp2_with (refine wpList_stS rfl rfl rfl rfl x10 ?_)
              intro w6 g6 z0 z1 z2 z3
              have l5 := HL8.out.trans (HB10.out.mono HL8.out.size)
              have l6 : Hid (Below w.heap.size w w6) := l5.trans ⟨g6.os, g6.tape, g6.output, g6.size, fun j hj => g6.block j (by have := l5.size; omega) (fun e => by injection e with e; have := EH.out; omega)⟩
              have S6 : Hid (Sh s (.int .i64 k, .slice p1 p2 p3, .slice p4 p5 p6, .slice p7 p8 p9) w6) := Sh_gb HS10.out (BS_nb x10) HOB.out g6
              clear g6 x10 l5 t0 t1 t2 t3 cv1 cv2
              go_wp2_with fail
              exact bodyPost_ret (v := .tuple #[.agg #[.int .i64 k, .slice p1 p2 p3, .slice p4 p5 p6, .slice p7 p8 p9], .int .i64 0]) (resS2 _ _ _ h 2 3 _ _ _ _ _ rfl rfl rfl z0 z1 z2 z3) rfl (by rw [HFF.out]; exact ⟨(.int .i64 k, .slice p1 p2 p3, .slice p4 p5 p6, .slice p7 p8 p9), rfl, S6.out, l6.out, ⟨_, _, _, _, _, _, _, _, _, _, rfl⟩⟩)
            · have HF := HFT (by rw [ef]; exact decide_eq_false eb)
              have hq : ((bst (hc s)).toList == (bst b).toList) = false := (bs_eq (hc s) b).trans (decide_eq_false eb)
              clear HFT hI e1 e2 ef eb t0 t1 t2 t3
              generalize (hc s).length = hl at *
              generalize bst (hc s) = X1 at *
              generalize bst b = X2 at *
              go_wp2_with fail
              have hw := hw.out
              go_roundw
              case rel => exact ⟨j + 1, j1, Nb.step_v j _ rfl, HF.out, HB10.out⟩
              case measure => exact Nb.msr j 2 j1 _ rfl
        · have hkl : j = 2 := by omega
          subst hkl
          have HFF : Hid (fnd b ss = (zS, 1)) := by
            show _ = _
            unfold fnd
            rw [find_no (fits b) zS ss (fun i hi => HJ.out.1 i (by rw [hlen.out] at hi; exact hi))]
          have x10 : BS h wx := BS_gb (r := none) HX8.out (gb_below HJ.out.2) nofun
          have l5 := HL8.out.trans (HJ.out.2.mono HL8.out.size)
          clear j1 hj HJ
          go_upto_region 25 with fail
          go_wp2_with (refine wpList_stS rfl rfl rfl rfl x10 ?_)
          intro w6 g6 z0 z1 z2 z3
          have l6 : Hid (Below w.heap.size w w6) := l5.trans ⟨g6.os, g6.tape, g6.output, g6.size, fun j hj => g6.block j (by have := l5.size; omega) (fun e => by injection e with e; have := EH.out; omega)⟩
          clear g6 x10 l5
          go_wp2_with fail
          exact bodyPost_ret (v := .tuple #[.agg #[.int .i64 0, .slice none 0 0, .slice none 0 0, .slice none 0 0], .int .i64 1]) (resS2 _ _ _ h 2 3 _ _ _ _ _ rfl rfl rfl z0 z1 z2 z3) rfl (by rw [HFF.out]; exact ⟨(.int .i64 0, .slice none 0 0, .slice none 0 0, .slice none 0 0), rfl, ⟨rfl, Sl_nil _, Sl_nil _, Ls_nil' _⟩, l6.out, ⟨_, _, _, _, _, _, _, _, _, _, rfl⟩⟩)
end Rs
end Go.Proofs.Ytcgimjlmihaegaa
