/- lampbearerkeep.BloomJoins: two sets are joined as their texts are. -/
import Derived.Test.YtcgjkombefhjmaaPackC
import Derived.Test.YtcgjkombefhjmaaPackA
namespace Go.Proofs.Ytcgjkombefhjmaa
namespace RF
theorem wp_of {o : Oper} {a : Act} {K : Act → World → Prop} {Q : Exit → Act → World → Prop} {w : World} (h : RS.upv Try.prog (fun v w => K (a.put o.dst v) w) ((execOp a.eval o).run Try.prog w)) : o.wp Try.prog a w K Q := RS.upv_upon h
end RF
namespace Bl
open Go.RowKit Sp
theorem vl2 (v u : Value) (w : World) (T : TypeId) : Vl [v, u] (.slice (some ⟨w.heap.size, 0, none⟩) 2 2) (w.alloc (.cells #[v, u] T)) := ⟨_, 2, rfl, fun _ => ⟨w.heap.size, 0, rfl, by simp, fun j hj => by
  have h := heap_alloc_new w (.cells #[v, u] T)
  simp only [World.cell?, h]
  have : j = 0 ∨ j = 1 := by simp at hj; omega
  rcases this with rfl | rfl <;> rfl⟩⟩
theorem vl3 (x y z : Value) (w : World) (T : TypeId) : Vl [x, y, z] (.slice (some ⟨w.heap.size, 0, none⟩) 3 3) (w.alloc (.cells #[x, y, z] T)) := ⟨_, 3, rfl, fun _ => ⟨w.heap.size, 0, rfl, by simp, fun j hj => by
  have h := heap_alloc_new w (.cells #[x, y, z] T)
  simp only [World.cell?, h]
  have : j = 0 ∨ j = 1 ∨ j = 2 := by simp at hj; omega
  rcases this with rfl | rfl | rfl <;> rfl⟩⟩
theorem vls {vs : List Value} {xss : List (List Value)} {s : Value} {w : World} (h : Vl vs s w) (hl : vs.length = xss.length) (hx : ∀ i, i < xss.length → ∃ vi, vs[i]? = some vi ∧ Vl (xss.getD i []) vi w) : Vls xss s w := by
  obtain ⟨ao, cap, e, h2⟩ := h
  refine ⟨ao, cap, by rw [← hl]; exact e, fun h0 => ?_⟩
  obtain ⟨g, off, h3, h4, h5⟩ := h2 (by omega)
  refine ⟨g, off, h3, h4, fun i hi => ?_⟩
  obtain ⟨vi, h6, h7⟩ := hx i hi
  exact ⟨vi, by rw [h5 i (by omega), h6], h7⟩
theorem cat2 {ps qs : List (List UInt8)} {v u s : Value} {w : World} (h : Vl [v, u] s w) (hp : Ls ps v w) (hq : Ls qs u w) (hn : ps.length + qs.length ≤ 4194304) :
    Calls Try.prog 16 #[s] w fun e w' => ∃ v', e = .returned v' ∧ Ls (ps ++ qs) v' w' ∧ Below w.heap.size w w' := by
  obtain ⟨hs, h1, h2⟩ := ls_heads hp
  obtain ⟨ks, k1, k2⟩ := ls_heads hq
  have e : ([hs, ks] : List (List Value)).flatten = hs ++ ks := by simp
  refine (concat_rb [hs, ks] s w (by show _ ≤ _; rw [e, List.length_append, h1.l, k1.l]; omega) (by show 2 ≤ 1048576; decide) (fun xs hxs x hx => ?_) (vls h rfl fun i hi => ?_)).mono ?_
  · simp only [List.mem_cons, List.not_mem_nil, or_false] at hxs
    rcases hxs with rfl | rfl
    · exact Hds_one' h1 x hx
    · exact Hds_one' k1 x hx
  · have : i = 0 ∨ i = 1 := by simp at hi; omega
    rcases this with rfl | rfl
    · exact ⟨v, rfl, h2⟩
    · exact ⟨u, rfl, k2⟩
  · rintro e' w1 ⟨v', rfl, o1, b1⟩
    rw [e] at o1
    exact ⟨v', rfl, own_ls o1 (Hds_below (Hds_app h1 k1) b1), b1⟩
theorem cat3 {ps qs : List (List UInt8)} {v u s : Value} {w : World} (h : Vl [u, v, u] s w) (hp : Ls ps v w) (hq : Ls qs u w) (hn : qs.length + (ps.length + qs.length) ≤ 4194304) :
    Calls Try.prog 16 #[s] w fun e w' => ∃ v', e = .returned v' ∧ Ls (qs ++ (ps ++ qs)) v' w' ∧ Below w.heap.size w w' := by
  obtain ⟨hs, h1, h2⟩ := ls_heads hp
  obtain ⟨ks, k1, k2⟩ := ls_heads hq
  have e : ([ks, hs, ks] : List (List Value)).flatten = ks ++ (hs ++ ks) := by simp
  refine (concat_rb [ks, hs, ks] s w (by show _ ≤ _; rw [e, List.length_append, List.length_append, h1.l, k1.l]; omega) (by show 3 ≤ 1048576; decide) (fun xs hxs x hx => ?_) (vls h rfl fun i hi => ?_)).mono ?_
  · simp only [List.mem_cons, List.not_mem_nil, or_false] at hxs
    rcases hxs with rfl | rfl | rfl
    · exact Hds_one' k1 x hx
    · exact Hds_one' h1 x hx
    · exact Hds_one' k1 x hx
  · have : i = 0 ∨ i = 1 ∨ i = 2 := by simp at hi; omega
    rcases this with rfl | rfl | rfl
    · exact ⟨u, rfl, k2⟩
    · exact ⟨v, rfl, h2⟩
    · exact ⟨u, rfl, k2⟩
  · rintro e' w1 ⟨v', rfl, o1, b1⟩
    rw [e] at o1
    exact ⟨v', rfl, own_ls o1 (Hds_below (Hds_app k1 (Hds_app h1 k1)) b1), b1⟩
theorem of_app (ps qs : List (List UInt8)) : of (ps ++ qs) = jn (of ps) (of qs) := by funext n; unfold of jn; rw [List.any_append]
theorem of_app3 (ps qs : List (List UInt8)) : of (qs ++ (ps ++ qs)) = jn (of ps) (of qs) := by
  rw [of_app, of_app]
  funext n
  unfold jn
  cases of ps n <;> cases of qs n <;> rfl
theorem jn_comm (P Q : Nat → Bool) : jn Q P = jn P Q := by funext n; exact Bool.or_comm _ _
theorem jn_again (P Q : Nat → Bool) : jn (jn P Q) P = jn P Q := by
  funext n
  unfold jn
  cases P n <;> cases Q n <;> rfl
theorem flat_le (ps qs : List (List UInt8)) : (qs ++ (ps ++ qs)).flatten.length = qs.flatten.length + (ps.flatten.length + qs.flatten.length) := by
  rw [List.flatten_append, List.flatten_append, List.length_append, List.length_append]
theorem flat_le2 (ps qs : List (List UInt8)) : (ps ++ qs).flatten.length = ps.flatten.length + qs.flatten.length := by
  rw [List.flatten_append, List.length_append]
inductive BJI (w : World) (ps qs : List (List UInt8)) (av au : Option Addr) (nv cv nu cu : Nat) (y11 y13 y14 y15 y16 : Value) (P Q J : Nat → Bool) (g h : Nat) (d : Nat → Bool) (x : Act) (wx : World) : Prop where
  | mk (u4 u17 u18 u19 u20 u21 u22 u23 u24 u25 u26 u27 u28 u29 u30 u31 u32 u33 u34 u35 u36 u37 u38 u39 u40 u41 u42 u43 u44 u45 u46 u47 u48 u49 u50 u51 u52 u53 u54 u55 u56 u57 : Value) (hx : x = { tmps := #[.slice av nv cv, .slice au nu cu, undef, undef, u4, .pointer (some ⟨g, 0, none⟩), .pointer (some ⟨g + 1, 0, none⟩), .pointer (some ⟨h, 0, none⟩), .bool true, .bool false, .slice av nv cv, y11, .slice au nu cu, y13, y14, y15, y16, u17, u18, u19, u20, u21, u22, u23, u24, u25, u26, u27, u28, u29, u30, u31, u32, u33, u34, u35, u36, u37, u38, u39, u40, u41, u42, u43, u44, u45, u46, u47, u48, u49, u50, u51, u52, u53, u54, u55, u56, u57], defers := [] }) (hw : Mem w [(h, J), (g + 1, Q), (g, P)] wx) (p0 : d 0 = true → u17 = Hv (FB J)) (p1 : d 1 = true → u18 = .slice av nv cv) (p2 : d 2 = true → u19 = .slice au nu cu) (p5 : d 5 = true → u22 = Hv (FB J)) (p6 : d 6 = true → u23 = .bool true) (p7 : d 7 = true → u24 = .bool true) (p8 : d 8 = true → u25 = Hv (FB J)) (p9 : d 9 = true → u26 = .slice au nu cu) (p10 : d 10 = true → u27 = .slice av nv cv) (p11 : d 11 = true → u28 = .slice au nu cu) (p14 : d 14 = true → u31 = Hv (FB J)) (p15 : d 15 = true → u32 = .bool true) (p16 : d 16 = true → u33 = .bool true) (p17 : d 17 = true → u34 = .bool true) (p18 : d 18 = true → u35 = Hv (FB J)) (p19 : d 19 = true → u36 = Hv (FB Q)) (p20 : d 20 = true → u37 = Hv (FB P)) (p21 : d 21 = true → u38 = Hv (FB J)) (p22 : d 22 = true → u39 = .bool true) (p23 : d 23 = true → u40 = .bool true) (p24 : d 24 = true → u41 = .bool true) (p25 : d 25 = true → u42 = Hv (FB J)) (p26 : d 26 = true → u43 = Hv (FB P)) (p27 : d 27 = true → u44 = Hv (FB J)) (p28 : d 28 = true → u45 = Hv (FB J)) (p29 : d 29 = true → u46 = .bool true) (p30 : d 30 = true → u47 = .bool true) (p31 : d 31 = true → u48 = .bool true) (p32 : d 32 = true → u49 = Hv (FB P)) (p33 : d 33 = true → u50 = Hv (FB J)) (p34 : d 34 = true → u51 = .bool true) (p35 : d 35 = true → u52 = .bool true) (p36 : d 36 = true → u53 = .bool true) (p37 : d 37 = true → u54 = Hv (FB Q)) (p38 : d 38 = true → u55 = Hv (FB J)) (p39 : d 39 = true → u56 = .bool true) (p40 : d 40 = true → u57 = .bool true) (p41 : d 41 = true → u4 = .bool true) (z3 : d 3 = true → Vl [.slice av nv cv, .slice au nu cu] u20 wx) (z4 : d 4 = true → Ls (ps ++ qs) u21 wx) (z12 : d 12 = true → Vl [.slice au nu cu, .slice av nv cv, .slice au nu cu] u29 wx) (z13 : d 13 = true → Ls (qs ++ (ps ++ qs)) u30 wx) : BJI w ps qs av au nv cv nu cu y11 y13 y14 y15 y16 P Q J g h d x wx
set_option maxHeartbeats 4000000 in
set_option maxRecDepth 100000 in
theorem law_joins (ps qs : List (List UInt8)) (v u : Value) (w : World) (hps : Hid (ps.flatten.length ≤ 1048576)) (hn : Hid (ps.length ≤ 1048576)) (hqs : Hid (qs.flatten.length ≤ 1048576)) (hm : Hid (qs.length ≤ 1048576)) (h : Ls ps v w) (h2 : Ls qs u w) :
    Calls Try.prog 5 #[v, u] w fun e w' => e = .returned (.bool true) ∧ Below w.heap.size w w' := by
  have KP : Hid (∀ wx, Below w.heap.size w wx → Calls Try.prog 7 #[v] wx fun e w' => e = .returned (Hv (FB (of ps))) ∧ Below wx.heap.size wx w') := fun wx hb => of_any ps v wx hps hn (Ls_below h hb)
  have KQ : Hid (∀ wx, Below w.heap.size w wx → Calls Try.prog 7 #[u] wx fun e w' => e = .returned (Hv (FB (of qs))) ∧ Below wx.heap.size wx w') := fun wx hb => of_any qs u wx hqs hm (Ls_below h2 hb)
  have KJ0 : Hid (∀ w : World, Calls Try.prog 9 #[Hv (FB (of ps)), Hv (FB (of qs))] w fun e w' => e = .returned (Hv (FB (jn (of ps) (of qs)))) ∧ Below w.heap.size w w') := fun w => join_any _ _ w
  have KJ1 : Hid (∀ w : World, Calls Try.prog 9 #[Hv (FB (of qs)), Hv (FB (of ps))] w fun e w' => e = .returned (Hv (FB (jn (of ps) (of qs)))) ∧ Below w.heap.size w w') := fun w => by
    have := join_any (of qs) (of ps) w
    rwa [jn_comm] at this
  have KJ2 : Hid (∀ w : World, Calls Try.prog 9 #[Hv (FB (jn (of ps) (of qs))), Hv (FB (of ps))] w fun e w' => e = .returned (Hv (FB (jn (of ps) (of qs)))) ∧ Below w.heap.size w w') := fun w => by
    have := join_any (jn (of ps) (of qs)) (of ps) w
    rwa [jn_again] at this
  have KW1 : Hid (∀ w : World, Calls Try.prog 11 #[Hv (FB (of ps)), Hv (FB (jn (of ps) (of qs)))] w fun e w' => e = .returned (.bool true) ∧ Below w.heap.size w w') := fun w => by
    have := within_any (of ps) (jn (of ps) (of qs)) w
    rwa [wi_l (wi_self _)] at this
  have KW2 : Hid (∀ w : World, Calls Try.prog 11 #[Hv (FB (of qs)), Hv (FB (jn (of ps) (of qs)))] w fun e w' => e = .returned (.bool true) ∧ Below w.heap.size w w') := fun w => by
    have := within_any (of qs) (jn (of ps) (of qs)) w
    rwa [wi_r (wi_self _)] at this
  have KC2 : Hid (∀ (wx : World) (s : Value), Vl [v, u] s wx → Below w.heap.size w wx → Calls Try.prog 16 #[s] wx fun e w' => ∃ v', e = .returned v' ∧ Ls (ps ++ qs) v' w' ∧ Below wx.heap.size wx w') := fun wx s hs hb => cat2 hs (Ls_below h hb) (Ls_below h2 hb) (by have := hn.out; have := hm.out; omega)
  have KC3 : Hid (∀ (wx : World) (s : Value), Vl [u, v, u] s wx → Below w.heap.size w wx → Calls Try.prog 16 #[s] wx fun e w' => ∃ v', e = .returned v' ∧ Ls (qs ++ (ps ++ qs)) v' w' ∧ Below wx.heap.size wx w') := fun wx s hs hb => cat3 hs (Ls_below h hb) (Ls_below h2 hb) (by have := hn.out; have := hm.out; omega)
  have KO2 : Hid (∀ (wx : World) (s : Value), Ls (ps ++ qs) s wx → Calls Try.prog 7 #[s] wx fun e w' => e = .returned (Hv (FB (jn (of ps) (of qs)))) ∧ Below wx.heap.size wx w') := fun wx s hs => by
    have := of_big (ps ++ qs) s wx (by show _ ≤ _; rw [flat_le2]; have := hps.out; have := hqs.out; omega) (by show _ ≤ _; rw [List.length_append]; have := hn.out; have := hm.out; omega) hs
    rwa [of_app] at this
  have KO3 : Hid (∀ (wx : World) (s : Value), Ls (qs ++ (ps ++ qs)) s wx → Calls Try.prog 7 #[s] wx fun e w' => e = .returned (Hv (FB (jn (of ps) (of qs)))) ∧ Below wx.heap.size wx w') := fun wx s hs => by
    have := of_big (qs ++ (ps ++ qs)) s wx (by show _ ≤ _; rw [flat_le]; have := hps.out; have := hqs.out; omega) (by show _ ≤ _; rw [List.length_append, List.length_append]; have := hn.out; have := hm.out; omega) hs
    rwa [of_app3] at this
  clear hps hqs hn hm
  obtain ⟨av, cv, ev, hv1⟩ := h
  obtain ⟨au, cu, eu, hu1⟩ := h2
  clear hv1 hu1
  generalize ps.length = nv at ev
  generalize qs.length = nu at eu
  subst ev eu
  generalize jn (of ps) (of qs) = J at *
  generalize of ps = P at *
  generalize of qs = Q at *
  go_enter Try.func5, Try.ntmps5
  go_upto_region 1 with fail
  go_wp2_with fail
  refine (alive10_any _).mono ?_
  rintro e w0 ⟨rfl, b0⟩
  go_upto_region 3 with fail
  refine wp_region_lit ?_
  refine RF.go (by kernel_rfl) ?_
  go_simp
  try simp only [Act.put, List.setIfInBounds_toArray, List.set_cons_succ, List.set_cons_zero]
  refine RF.go (by kernel_rfl) ?_
  go_simp
  refine (KP.out _ b0).mono (fun e w1 he => ⟨_, he.1, ?_⟩)
  have b1 := b0.trans (he.2.mono b0.size)
  clear he b0
  try simp only [Act.put, List.setIfInBounds_toArray, List.set_cons_succ, List.set_cons_zero]
  refine RF.go (by kernel_rfl) ?_
  go_simp
  try simp only [Act.put, List.setIfInBounds_toArray, List.set_cons_succ, List.set_cons_zero]
  refine RF.go (by kernel_rfl) ?_
  go_simp
  refine (KQ.out _ b1).mono (fun e w3 he => ⟨_, he.1, ?_⟩)
  have b3 := b1.trans (he.2.mono b1.size)
  clear he b1
  try simp only [Act.put, List.setIfInBounds_toArray, List.set_cons_succ, List.set_cons_zero]
  refine RF.go (by kernel_rfl) ?_
  go_simp
  try simp only [Act.put, List.setIfInBounds_toArray, List.set_cons_succ, List.set_cons_zero]
  refine RF.go (by kernel_rfl) ?_
  go_simp
  try simp only [Act.put, List.setIfInBounds_toArray, List.set_cons_succ, List.set_cons_zero]
  refine RF.go (by kernel_rfl) ?_
  have n1 := Mem_zero (Mem_zero (w := w) (L := []) (w1 := w3) ⟨fun _ h => (nomatch h), b3⟩)
  rw [World.size_alloc] at n1
  have n2 : Mem w [(w3.heap.size, fun _ => false), (w3.heap.size + 1, fun _ => false)] ((w3.alloc (.cells #[.int .u8 0, .int .u8 0, .int .u8 0, .int .u8 0, .int .u8 0, .int .u8 0, .int .u8 0, .int .u8 0, .int .u8 0, .int .u8 0, .int .u8 0, .int .u8 0, .int .u8 0, .int .u8 0, .int .u8 0, .int .u8 0, .int .u8 0, .int .u8 0, .int .u8 0, .int .u8 0, .int .u8 0, .int .u8 0, .int .u8 0, .int .u8 0, .int .u8 0, .int .u8 0, .int .u8 0, .int .u8 0, .int .u8 0, .int .u8 0, .int .u8 0, .int .u8 0] 24)).alloc (.cells #[.int .u8 0, .int .u8 0, .int .u8 0, .int .u8 0, .int .u8 0, .int .u8 0, .int .u8 0, .int .u8 0, .int .u8 0, .int .u8 0, .int .u8 0, .int .u8 0, .int .u8 0, .int .u8 0, .int .u8 0, .int .u8 0, .int .u8 0, .int .u8 0, .int .u8 0, .int .u8 0, .int .u8 0, .int .u8 0, .int .u8 0, .int .u8 0, .int .u8 0, .int .u8 0, .int .u8 0, .int .u8 0, .int .u8 0, .int .u8 0, .int .u8 0, .int .u8 0] 24)) := Mem_sub n1 (fun x hx => by simp at hx ⊢; rcases hx with h | h <;> simp [h])
  generalize (w3.alloc (.cells #[.int .u8 0, .int .u8 0, .int .u8 0, .int .u8 0, .int .u8 0, .int .u8 0, .int .u8 0, .int .u8 0, .int .u8 0, .int .u8 0, .int .u8 0, .int .u8 0, .int .u8 0, .int .u8 0, .int .u8 0, .int .u8 0, .int .u8 0, .int .u8 0, .int .u8 0, .int .u8 0, .int .u8 0, .int .u8 0, .int .u8 0, .int .u8 0, .int .u8 0, .int .u8 0, .int .u8 0, .int .u8 0, .int .u8 0, .int .u8 0, .int .u8 0, .int .u8 0] 24)).alloc (.cells #[.int .u8 0, .int .u8 0, .int .u8 0, .int .u8 0, .int .u8 0, .int .u8 0, .int .u8 0, .int .u8 0, .int .u8 0, .int .u8 0, .int .u8 0, .int .u8 0, .int .u8 0, .int .u8 0, .int .u8 0, .int .u8 0, .int .u8 0, .int .u8 0, .int .u8 0, .int .u8 0, .int .u8 0, .int .u8 0, .int .u8 0, .int .u8 0, .int .u8 0, .int .u8 0, .int .u8 0, .int .u8 0, .int .u8 0, .int .u8 0, .int .u8 0, .int .u8 0] 24) = W4 at n2 ⊢
  clear n1 b3
  generalize w3.heap.size = g at n2 ⊢
  have n3 := n2.v (g, fun _ => false) (by simp)
  refine st rfl rfl rfl n3.c n3.f ?_
  have n4 := Mem_set (Q := P) n2 (by simp)
  clear n2 n3
  generalize W4.setCells g 0 (h32 (FB P)).toArray.toList = W4' at n4 ⊢
  try simp only [Act.put]
  refine RF.go (by kernel_rfl) ?_
  have n5 : Mem w [(g + 1, fun _ => false), (g, P)] W4' := Mem_sub n4 (fun x hx => by simp at hx ⊢; rcases hx with h | h <;> simp [h])
  have n6 := n5.v (g + 1, fun _ => false) (by simp)
  refine st rfl rfl rfl n6.c n6.f ?_
  have m5 := Mem_set (Q := Q) n5 (by simp)
  clear n4 n5 n6
  generalize W4'.setCells (g + 1) 0 (h32 (FB Q)).toArray.toList = W5 at m5 ⊢
  try simp only [Act.put]
  refine wpList_nil ?_
  go_upto_region 4 with fail
  refine wp_region_lit ?_
  refine RF.go (by kernel_rfl) ?_
  refine ld rfl rfl (m5.v (g, P) (by simp)).c ?_
  try simp only [Act.put, List.setIfInBounds_toArray, List.set_cons_succ, List.set_cons_zero]
  refine RF.go (by kernel_rfl) ?_
  refine ld rfl rfl (m5.v (g + 1, Q) (by simp)).c ?_
  try simp only [Act.put, List.setIfInBounds_toArray, List.set_cons_succ, List.set_cons_zero]
  refine RF.go (by kernel_rfl) ?_
  go_simp
  refine (KJ0.out _).mono (fun e w6 he => ⟨_, he.1, ?_⟩)
  have m6 := Mem_below m5 he.2
  clear he m5
  try simp only [Act.put, List.setIfInBounds_toArray, List.set_cons_succ, List.set_cons_zero]
  refine RF.go (by kernel_rfl) ?_
  go_simp
  have m7 := Mem_zero m6
  have l0 := (m6.v (g, P) (by simp)).hi
  have l1 := (m6.v (g + 1, Q) (by simp)).hi
  generalize w6.alloc (.cells #[.int .u8 0, .int .u8 0, .int .u8 0, .int .u8 0, .int .u8 0, .int .u8 0, .int .u8 0, .int .u8 0, .int .u8 0, .int .u8 0, .int .u8 0, .int .u8 0, .int .u8 0, .int .u8 0, .int .u8 0, .int .u8 0, .int .u8 0, .int .u8 0, .int .u8 0, .int .u8 0, .int .u8 0, .int .u8 0, .int .u8 0, .int .u8 0, .int .u8 0, .int .u8 0, .int .u8 0, .int .u8 0, .int .u8 0, .int .u8 0, .int .u8 0, .int .u8 0] 24) = W7 at m7 ⊢
  generalize w6.heap.size = h at m7 l0 l1 ⊢
  clear m6
  try simp only [Act.put, List.setIfInBounds_toArray, List.set_cons_succ, List.set_cons_zero]
  refine RF.go (by kernel_rfl) ?_
  have n3 := m7.v (h, fun _ => false) (by simp)
  refine st rfl rfl rfl n3.c n3.f ?_
  have m8 := Mem_set (Q := J) m7 (by intro x hx; simp at hx; rcases hx with rfl | rfl <;> (dsimp only at *; omega))
  clear n3 m7 l0 l1
  generalize W7.setCells h 0 (h32 (FB J)).toArray.toList = W8 at m8 ⊢
  try simp only [Act.put]
  refine wpList_nil ?_
  have hw0 := Mem_drew m8
  clear m8 KP KQ KJ0
  go_upto_region 5 with fail
  refine RI.wp_region_inv (BJI w ps qs av au nv cv nu cu (Hv (FB P)) (Hv (FB Q)) (Hv (FB P)) (Hv (FB Q)) (Hv (FB J)) P Q J g h) (by kernel_rfl) (by kernel_rfl) ?_ ?_ ?_
  · exact ⟨.bool false, undef, undef, undef, undef, undef, undef, undef, undef, undef, undef, undef, undef, undef, undef, undef, undef, undef, undef, undef, undef, undef, undef, undef, undef, undef, undef, undef, undef, undef, undef, undef, undef, undef, undef, undef, undef, undef, undef, undef, undef, undef, rfl, hw0, nofun, nofun, nofun, nofun, nofun, nofun, nofun, nofun, nofun, nofun, nofun, nofun, nofun, nofun, nofun, nofun, nofun, nofun, nofun, nofun, nofun, nofun, nofun, nofun, nofun, nofun, nofun, nofun, nofun, nofun, nofun, nofun, nofun, nofun, nofun, nofun, nofun, nofun, nofun, nofun, nofun, nofun⟩
  · skip
    intro d x wx i hI hi hm
    obtain ⟨u4, u17, u18, u19, u20, u21, u22, u23, u24, u25, u26, u27, u28, u29, u30, u31, u32, u33, u34, u35, u36, u37, u38, u39, u40, u41, u42, u43, u44, u45, u46, u47, u48, u49, u50, u51, u52, u53, u54, u55, u56, u57, rfl, hw, p0, p1, p2, p5, p6, p7, p8, p9, p10, p11, p14, p15, p16, p17, p18, p19, p20, p21, p22, p23, p24, p25, p26, p27, p28, p29, p30, p31, p32, p33, p34, p35, p36, p37, p38, p39, p40, p41, z3, z4, z12, z13⟩ := hI
    have hi' : i = 0 ∨ i = 1 ∨ i = 2 ∨ i = 3 ∨ i = 4 ∨ i = 5 ∨ i = 6 ∨ i = 7 ∨ i = 8 ∨ i = 9 ∨ i = 10 ∨ i = 11 ∨ i = 12 ∨ i = 13 ∨ i = 14 ∨ i = 15 ∨ i = 16 ∨ i = 17 ∨ i = 18 ∨ i = 19 ∨ i = 20 ∨ i = 21 ∨ i = 22 ∨ i = 23 ∨ i = 24 ∨ i = 25 ∨ i = 26 ∨ i = 27 ∨ i = 28 ∨ i = 29 ∨ i = 30 ∨ i = 31 ∨ i = 32 ∨ i = 33 ∨ i = 34 ∨ i = 35 ∨ i = 36 ∨ i = 37 ∨ i = 38 ∨ i = 39 ∨ i = 40 ∨ i = 41 := by simp at hi; omega
    have hd := hm.2
    clear hm hi
    rcases hi' with rfl | rfl | rfl | rfl | rfl | rfl | rfl | rfl | rfl | rfl | rfl | rfl | rfl | rfl | rfl | rfl | rfl | rfl | rfl | rfl | rfl | rfl | rfl | rfl | rfl | rfl | rfl | rfl | rfl | rfl | rfl | rfl | rfl | rfl | rfl | rfl | rfl | rfl | rfl | rfl | rfl | rfl
    · refine RI.wpOp_plain rfl rfl ?_
      refine RF.wp_of (ld rfl rfl (hw.v (h, J) (by simp)).c ?_)
      exact ⟨u4, _, u18, u19, u20, u21, u22, u23, u24, u25, u26, u27, u28, u29, u30, u31, u32, u33, u34, u35, u36, u37, u38, u39, u40, u41, u42, u43, u44, u45, u46, u47, u48, u49, u50, u51, u52, u53, u54, u55, u56, u57, rfl, hw, fun _ => rfl, p1, p2, p5, p6, p7, p8, p9, p10, p11, p14, p15, p16, p17, p18, p19, p20, p21, p22, p23, p24, p25, p26, p27, p28, p29, p30, p31, p32, p33, p34, p35, p36, p37, p38, p39, p40, p41, z3, z4, z12, z13⟩
    · refine RI.wpOp_plain rfl rfl ?_
      go_simp
      exact ⟨u4, u17, _, u19, u20, u21, u22, u23, u24, u25, u26, u27, u28, u29, u30, u31, u32, u33, u34, u35, u36, u37, u38, u39, u40, u41, u42, u43, u44, u45, u46, u47, u48, u49, u50, u51, u52, u53, u54, u55, u56, u57, rfl, hw, p0, fun _ => rfl, p2, p5, p6, p7, p8, p9, p10, p11, p14, p15, p16, p17, p18, p19, p20, p21, p22, p23, p24, p25, p26, p27, p28, p29, p30, p31, p32, p33, p34, p35, p36, p37, p38, p39, p40, p41, z3, z4, z12, z13⟩
    · refine RI.wpOp_plain rfl rfl ?_
      go_simp
      exact ⟨u4, u17, u18, _, u20, u21, u22, u23, u24, u25, u26, u27, u28, u29, u30, u31, u32, u33, u34, u35, u36, u37, u38, u39, u40, u41, u42, u43, u44, u45, u46, u47, u48, u49, u50, u51, u52, u53, u54, u55, u56, u57, rfl, hw, p0, p1, fun _ => rfl, p5, p6, p7, p8, p9, p10, p11, p14, p15, p16, p17, p18, p19, p20, p21, p22, p23, p24, p25, p26, p27, p28, p29, p30, p31, p32, p33, p34, p35, p36, p37, p38, p39, p40, p41, z3, z4, z12, z13⟩
    · have hd := hd _ rfl
      simp [Region.binds] at hd
      obtain rfl := p1 (by simp [hd])
      obtain rfl := p2 (by simp [hd])
      refine RI.wpOp_plain rfl rfl ?_
      go_simp
      have hb1 : Below wx.heap.size wx (wx.alloc (.cells #[.slice av nv cv, .slice au nu cu] 22)) := (Below.refl _ _).alloc (Nat.le_refl _) _
      exact ⟨u4, u17, _, _, _, u21, u22, u23, u24, u25, u26, u27, u28, u29, u30, u31, u32, u33, u34, u35, u36, u37, u38, u39, u40, u41, u42, u43, u44, u45, u46, u47, u48, u49, u50, u51, u52, u53, u54, u55, u56, u57, rfl, Mem_below hw hb1, p0, p1, p2, p5, p6, p7, p8, p9, p10, p11, p14, p15, p16, p17, p18, p19, p20, p21, p22, p23, p24, p25, p26, p27, p28, p29, p30, p31, p32, p33, p34, p35, p36, p37, p38, p39, p40, p41, fun _ => vl2 _ _ wx _, (fun h => Ls_below (z4 h) hb1), (fun h => Vl_below (z12 h) hb1), (fun h => Ls_below (z13 h) hb1)⟩
    · have hd := hd _ rfl
      simp [Region.binds] at hd
      refine RI.wpOp_plain rfl rfl ?_
      go_simp
      refine (KC2.out _ _ (z3 (by simp [hd])) hw.b).mono ?_
      rintro e w1 ⟨v1, rfl, hs1, hb1⟩
      exact ⟨u4, u17, u18, u19, u20, _, u22, u23, u24, u25, u26, u27, u28, u29, u30, u31, u32, u33, u34, u35, u36, u37, u38, u39, u40, u41, u42, u43, u44, u45, u46, u47, u48, u49, u50, u51, u52, u53, u54, u55, u56, u57, rfl, Mem_below hw hb1, p0, p1, p2, p5, p6, p7, p8, p9, p10, p11, p14, p15, p16, p17, p18, p19, p20, p21, p22, p23, p24, p25, p26, p27, p28, p29, p30, p31, p32, p33, p34, p35, p36, p37, p38, p39, p40, p41, (fun h => Vl_below (z3 h) hb1), fun _ => hs1, (fun h => Vl_below (z12 h) hb1), (fun h => Ls_below (z13 h) hb1)⟩
    · have hd := hd _ rfl
      simp [Region.binds] at hd
      refine RI.wpOp_plain rfl rfl ?_
      go_simp
      refine (KO2.out _ _ (z4 (by simp [hd]))).mono ?_
      rintro e w1 ⟨rfl, hb1⟩
      exact ⟨u4, u17, u18, u19, u20, u21, _, u23, u24, u25, u26, u27, u28, u29, u30, u31, u32, u33, u34, u35, u36, u37, u38, u39, u40, u41, u42, u43, u44, u45, u46, u47, u48, u49, u50, u51, u52, u53, u54, u55, u56, u57, rfl, Mem_below hw hb1, p0, p1, p2, fun _ => rfl, p6, p7, p8, p9, p10, p11, p14, p15, p16, p17, p18, p19, p20, p21, p22, p23, p24, p25, p26, p27, p28, p29, p30, p31, p32, p33, p34, p35, p36, p37, p38, p39, p40, p41, (fun h => Vl_below (z3 h) hb1), (fun h => Ls_below (z4 h) hb1), (fun h => Vl_below (z12 h) hb1), (fun h => Ls_below (z13 h) hb1)⟩
    · have hd := hd _ rfl
      simp [Region.binds] at hd
      obtain rfl := p0 (by simp [hd])
      obtain rfl := p5 (by simp [hd])
      refine RI.wpOp_plain rfl rfl ?_
      refine RF.wp_of (eq (b := true) rfl rfl rfl (same_self _ _) ?_)
      exact ⟨u4, _, u18, u19, u20, u21, _, _, u24, u25, u26, u27, u28, u29, u30, u31, u32, u33, u34, u35, u36, u37, u38, u39, u40, u41, u42, u43, u44, u45, u46, u47, u48, u49, u50, u51, u52, u53, u54, u55, u56, u57, rfl, hw, p0, p1, p2, p5, fun _ => rfl, p7, p8, p9, p10, p11, p14, p15, p16, p17, p18, p19, p20, p21, p22, p23, p24, p25, p26, p27, p28, p29, p30, p31, p32, p33, p34, p35, p36, p37, p38, p39, p40, p41, z3, z4, z12, z13⟩
    · have hd := hd _ rfl
      simp [Region.binds] at hd
      obtain rfl := p5 (by simp [hd])
      obtain rfl := p6 (by simp [hd])
      refine RI.wpOp_plain rfl rfl ?_
      go_simp
      exact ⟨u4, u17, u18, u19, u20, u21, _, _, _, u25, u26, u27, u28, u29, u30, u31, u32, u33, u34, u35, u36, u37, u38, u39, u40, u41, u42, u43, u44, u45, u46, u47, u48, u49, u50, u51, u52, u53, u54, u55, u56, u57, rfl, hw, p0, p1, p2, p5, p6, fun _ => rfl, p8, p9, p10, p11, p14, p15, p16, p17, p18, p19, p20, p21, p22, p23, p24, p25, p26, p27, p28, p29, p30, p31, p32, p33, p34, p35, p36, p37, p38, p39, p40, p41, z3, z4, z12, z13⟩
    · have hd := hd _ rfl
      simp [Region.binds] at hd
      obtain rfl := p7 (by simp [hd])
      refine RI.wpOp_guard rfl rfl rfl ?_
      refine RF.wp_of (ld rfl rfl (hw.v (h, J) (by simp)).c ?_)
      exact ⟨u4, u17, u18, u19, u20, u21, u22, u23, _, _, u26, u27, u28, u29, u30, u31, u32, u33, u34, u35, u36, u37, u38, u39, u40, u41, u42, u43, u44, u45, u46, u47, u48, u49, u50, u51, u52, u53, u54, u55, u56, u57, rfl, hw, p0, p1, p2, p5, p6, p7, fun _ => rfl, p9, p10, p11, p14, p15, p16, p17, p18, p19, p20, p21, p22, p23, p24, p25, p26, p27, p28, p29, p30, p31, p32, p33, p34, p35, p36, p37, p38, p39, p40, p41, z3, z4, z12, z13⟩
    · have hd := hd _ rfl
      simp [Region.binds] at hd
      obtain rfl := p7 (by simp [hd])
      refine RI.wpOp_guard rfl rfl rfl ?_
      go_simp
      exact ⟨u4, u17, u18, u19, u20, u21, u22, u23, _, u25, _, u27, u28, u29, u30, u31, u32, u33, u34, u35, u36, u37, u38, u39, u40, u41, u42, u43, u44, u45, u46, u47, u48, u49, u50, u51, u52, u53, u54, u55, u56, u57, rfl, hw, p0, p1, p2, p5, p6, p7, p8, fun _ => rfl, p10, p11, p14, p15, p16, p17, p18, p19, p20, p21, p22, p23, p24, p25, p26, p27, p28, p29, p30, p31, p32, p33, p34, p35, p36, p37, p38, p39, p40, p41, z3, z4, z12, z13⟩
    · have hd := hd _ rfl
      simp [Region.binds] at hd
      obtain rfl := p7 (by simp [hd])
      refine RI.wpOp_guard rfl rfl rfl ?_
      go_simp
      exact ⟨u4, u17, u18, u19, u20, u21, u22, u23, _, u25, u26, _, u28, u29, u30, u31, u32, u33, u34, u35, u36, u37, u38, u39, u40, u41, u42, u43, u44, u45, u46, u47, u48, u49, u50, u51, u52, u53, u54, u55, u56, u57, rfl, hw, p0, p1, p2, p5, p6, p7, p8, p9, fun _ => rfl, p11, p14, p15, p16, p17, p18, p19, p20, p21, p22, p23, p24, p25, p26, p27, p28, p29, p30, p31, p32, p33, p34, p35, p36, p37, p38, p39, p40, p41, z3, z4, z12, z13⟩
    · have hd := hd _ rfl
      simp [Region.binds] at hd
      obtain rfl := p7 (by simp [hd])
      refine RI.wpOp_guard rfl rfl rfl ?_
      go_simp
      exact ⟨u4, u17, u18, u19, u20, u21, u22, u23, _, u25, u26, u27, _, u29, u30, u31, u32, u33, u34, u35, u36, u37, u38, u39, u40, u41, u42, u43, u44, u45, u46, u47, u48, u49, u50, u51, u52, u53, u54, u55, u56, u57, rfl, hw, p0, p1, p2, p5, p6, p7, p8, p9, p10, fun _ => rfl, p14, p15, p16, p17, p18, p19, p20, p21, p22, p23, p24, p25, p26, p27, p28, p29, p30, p31, p32, p33, p34, p35, p36, p37, p38, p39, p40, p41, z3, z4, z12, z13⟩
    · have hd := hd _ rfl
      simp [Region.binds] at hd
      obtain rfl := p7 (by simp [hd])
      obtain rfl := p9 (by simp [hd])
      obtain rfl := p10 (by simp [hd])
      obtain rfl := p11 (by simp [hd])
      refine RI.wpOp_guard rfl rfl rfl ?_
      go_simp
      have hb1 : Below wx.heap.size wx (wx.alloc (.cells #[.slice au nu cu, .slice av nv cv, .slice au nu cu] 22)) := (Below.refl _ _).alloc (Nat.le_refl _) _
      exact ⟨u4, u17, u18, u19, u20, u21, u22, u23, _, u25, _, _, _, _, u30, u31, u32, u33, u34, u35, u36, u37, u38, u39, u40, u41, u42, u43, u44, u45, u46, u47, u48, u49, u50, u51, u52, u53, u54, u55, u56, u57, rfl, Mem_below hw hb1, p0, p1, p2, p5, p6, p7, p8, p9, p10, p11, p14, p15, p16, p17, p18, p19, p20, p21, p22, p23, p24, p25, p26, p27, p28, p29, p30, p31, p32, p33, p34, p35, p36, p37, p38, p39, p40, p41, (fun h => Vl_below (z3 h) hb1), (fun h => Ls_below (z4 h) hb1), fun _ => vl3 _ _ _ wx _, (fun h => Ls_below (z13 h) hb1)⟩
    · have hd := hd _ rfl
      simp [Region.binds] at hd
      obtain rfl := p7 (by simp [hd])
      refine RI.wpOp_guard rfl rfl rfl ?_
      go_simp
      refine (KC3.out _ _ (z12 (by simp [hd])) hw.b).mono ?_
      rintro e w1 ⟨v1, rfl, hs1, hb1⟩
      exact ⟨u4, u17, u18, u19, u20, u21, u22, u23, _, u25, u26, u27, u28, u29, _, u31, u32, u33, u34, u35, u36, u37, u38, u39, u40, u41, u42, u43, u44, u45, u46, u47, u48, u49, u50, u51, u52, u53, u54, u55, u56, u57, rfl, Mem_below hw hb1, p0, p1, p2, p5, p6, p7, p8, p9, p10, p11, p14, p15, p16, p17, p18, p19, p20, p21, p22, p23, p24, p25, p26, p27, p28, p29, p30, p31, p32, p33, p34, p35, p36, p37, p38, p39, p40, p41, (fun h => Vl_below (z3 h) hb1), (fun h => Ls_below (z4 h) hb1), (fun h => Vl_below (z12 h) hb1), fun _ => hs1⟩
    · have hd := hd _ rfl
      simp [Region.binds] at hd
      obtain rfl := p7 (by simp [hd])
      refine RI.wpOp_guard rfl rfl rfl ?_
      go_simp
      refine (KO3.out _ _ (z13 (by simp [hd]))).mono ?_
      rintro e w1 ⟨rfl, hb1⟩
      exact ⟨u4, u17, u18, u19, u20, u21, u22, u23, _, u25, u26, u27, u28, u29, u30, _, u32, u33, u34, u35, u36, u37, u38, u39, u40, u41, u42, u43, u44, u45, u46, u47, u48, u49, u50, u51, u52, u53, u54, u55, u56, u57, rfl, Mem_below hw hb1, p0, p1, p2, p5, p6, p7, p8, p9, p10, p11, fun _ => rfl, p15, p16, p17, p18, p19, p20, p21, p22, p23, p24, p25, p26, p27, p28, p29, p30, p31, p32, p33, p34, p35, p36, p37, p38, p39, p40, p41, (fun h => Vl_below (z3 h) hb1), (fun h => Ls_below (z4 h) hb1), (fun h => Vl_below (z12 h) hb1), (fun h => Ls_below (z13 h) hb1)⟩
    · have hd := hd _ rfl
      simp [Region.binds] at hd
      obtain rfl := p7 (by simp [hd])
      obtain rfl := p8 (by simp [hd])
      obtain rfl := p14 (by simp [hd])
      refine RI.wpOp_guard rfl rfl rfl ?_
      refine RF.wp_of (eq (b := true) rfl rfl rfl (same_self _ _) ?_)
      exact ⟨u4, u17, u18, u19, u20, u21, u22, u23, _, _, u26, u27, u28, u29, u30, _, _, u33, u34, u35, u36, u37, u38, u39, u40, u41, u42, u43, u44, u45, u46, u47, u48, u49, u50, u51, u52, u53, u54, u55, u56, u57, rfl, hw, p0, p1, p2, p5, p6, p7, p8, p9, p10, p11, p14, fun _ => rfl, p16, p17, p18, p19, p20, p21, p22, p23, p24, p25, p26, p27, p28, p29, p30, p31, p32, p33, p34, p35, p36, p37, p38, p39, p40, p41, z3, z4, z12, z13⟩
    · have hd := hd _ rfl
      simp [Region.binds] at hd
      obtain rfl := p7 (by simp [hd])
      obtain rfl := p15 (by simp [hd])
      refine RI.wpOp_plain rfl rfl ?_
      go_simp
      exact ⟨u4, u17, u18, u19, u20, u21, u22, u23, _, u25, u26, u27, u28, u29, u30, u31, _, _, u34, u35, u36, u37, u38, u39, u40, u41, u42, u43, u44, u45, u46, u47, u48, u49, u50, u51, u52, u53, u54, u55, u56, u57, rfl, hw, p0, p1, p2, p5, p6, p7, p8, p9, p10, p11, p14, p15, fun _ => rfl, p17, p18, p19, p20, p21, p22, p23, p24, p25, p26, p27, p28, p29, p30, p31, p32, p33, p34, p35, p36, p37, p38, p39, p40, p41, z3, z4, z12, z13⟩
    · have hd := hd _ rfl
      simp [Region.binds] at hd
      obtain rfl := p14 (by simp [hd])
      obtain rfl := p16 (by simp [hd])
      refine RI.wpOp_plain rfl rfl ?_
      go_simp
      exact ⟨u4, u17, u18, u19, u20, u21, u22, u23, u24, u25, u26, u27, u28, u29, u30, _, u32, _, _, u35, u36, u37, u38, u39, u40, u41, u42, u43, u44, u45, u46, u47, u48, u49, u50, u51, u52, u53, u54, u55, u56, u57, rfl, hw, p0, p1, p2, p5, p6, p7, p8, p9, p10, p11, p14, p15, p16, fun _ => rfl, p18, p19, p20, p21, p22, p23, p24, p25, p26, p27, p28, p29, p30, p31, p32, p33, p34, p35, p36, p37, p38, p39, p40, p41, z3, z4, z12, z13⟩
    · have hd := hd _ rfl
      simp [Region.binds] at hd
      obtain rfl := p17 (by simp [hd])
      refine RI.wpOp_guard rfl rfl rfl ?_
      refine RF.wp_of (ld rfl rfl (hw.v (h, J) (by simp)).c ?_)
      exact ⟨u4, u17, u18, u19, u20, u21, u22, u23, u24, u25, u26, u27, u28, u29, u30, u31, u32, u33, _, _, u36, u37, u38, u39, u40, u41, u42, u43, u44, u45, u46, u47, u48, u49, u50, u51, u52, u53, u54, u55, u56, u57, rfl, hw, p0, p1, p2, p5, p6, p7, p8, p9, p10, p11, p14, p15, p16, p17, fun _ => rfl, p19, p20, p21, p22, p23, p24, p25, p26, p27, p28, p29, p30, p31, p32, p33, p34, p35, p36, p37, p38, p39, p40, p41, z3, z4, z12, z13⟩
    · have hd := hd _ rfl
      simp [Region.binds] at hd
      obtain rfl := p17 (by simp [hd])
      refine RI.wpOp_guard rfl rfl rfl ?_
      refine RF.wp_of (ld rfl rfl (hw.v (g + 1, Q) (by simp)).c ?_)
      exact ⟨u4, u17, u18, u19, u20, u21, u22, u23, u24, u25, u26, u27, u28, u29, u30, u31, u32, u33, _, u35, _, u37, u38, u39, u40, u41, u42, u43, u44, u45, u46, u47, u48, u49, u50, u51, u52, u53, u54, u55, u56, u57, rfl, hw, p0, p1, p2, p5, p6, p7, p8, p9, p10, p11, p14, p15, p16, p17, p18, fun _ => rfl, p20, p21, p22, p23, p24, p25, p26, p27, p28, p29, p30, p31, p32, p33, p34, p35, p36, p37, p38, p39, p40, p41, z3, z4, z12, z13⟩
    · have hd := hd _ rfl
      simp [Region.binds] at hd
      obtain rfl := p17 (by simp [hd])
      refine RI.wpOp_guard rfl rfl rfl ?_
      refine RF.wp_of (ld rfl rfl (hw.v (g, P) (by simp)).c ?_)
      exact ⟨u4, u17, u18, u19, u20, u21, u22, u23, u24, u25, u26, u27, u28, u29, u30, u31, u32, u33, _, u35, u36, _, u38, u39, u40, u41, u42, u43, u44, u45, u46, u47, u48, u49, u50, u51, u52, u53, u54, u55, u56, u57, rfl, hw, p0, p1, p2, p5, p6, p7, p8, p9, p10, p11, p14, p15, p16, p17, p18, p19, fun _ => rfl, p21, p22, p23, p24, p25, p26, p27, p28, p29, p30, p31, p32, p33, p34, p35, p36, p37, p38, p39, p40, p41, z3, z4, z12, z13⟩
    · have hd := hd _ rfl
      simp [Region.binds] at hd
      obtain rfl := p17 (by simp [hd])
      obtain rfl := p19 (by simp [hd])
      obtain rfl := p20 (by simp [hd])
      refine RI.wpOp_guard rfl rfl rfl ?_
      go_simp
      refine (KJ1.out _).mono ?_
      rintro e w1 ⟨rfl, hb1⟩
      exact ⟨u4, u17, u18, u19, u20, u21, u22, u23, u24, u25, u26, u27, u28, u29, u30, u31, u32, u33, _, u35, _, _, _, u39, u40, u41, u42, u43, u44, u45, u46, u47, u48, u49, u50, u51, u52, u53, u54, u55, u56, u57, rfl, Mem_below hw hb1, p0, p1, p2, p5, p6, p7, p8, p9, p10, p11, p14, p15, p16, p17, p18, p19, p20, fun _ => rfl, p22, p23, p24, p25, p26, p27, p28, p29, p30, p31, p32, p33, p34, p35, p36, p37, p38, p39, p40, p41, (fun h => Vl_below (z3 h) hb1), (fun h => Ls_below (z4 h) hb1), (fun h => Vl_below (z12 h) hb1), (fun h => Ls_below (z13 h) hb1)⟩
    · have hd := hd _ rfl
      simp [Region.binds] at hd
      obtain rfl := p17 (by simp [hd])
      obtain rfl := p18 (by simp [hd])
      obtain rfl := p21 (by simp [hd])
      refine RI.wpOp_guard rfl rfl rfl ?_
      refine RF.wp_of (eq (b := true) rfl rfl rfl (same_self _ _) ?_)
      exact ⟨u4, u17, u18, u19, u20, u21, u22, u23, u24, u25, u26, u27, u28, u29, u30, u31, u32, u33, _, _, u36, u37, _, _, u40, u41, u42, u43, u44, u45, u46, u47, u48, u49, u50, u51, u52, u53, u54, u55, u56, u57, rfl, hw, p0, p1, p2, p5, p6, p7, p8, p9, p10, p11, p14, p15, p16, p17, p18, p19, p20, p21, fun _ => rfl, p23, p24, p25, p26, p27, p28, p29, p30, p31, p32, p33, p34, p35, p36, p37, p38, p39, p40, p41, z3, z4, z12, z13⟩
    · have hd := hd _ rfl
      simp [Region.binds] at hd
      obtain rfl := p17 (by simp [hd])
      obtain rfl := p22 (by simp [hd])
      refine RI.wpOp_plain rfl rfl ?_
      go_simp
      exact ⟨u4, u17, u18, u19, u20, u21, u22, u23, u24, u25, u26, u27, u28, u29, u30, u31, u32, u33, _, u35, u36, u37, u38, _, _, u41, u42, u43, u44, u45, u46, u47, u48, u49, u50, u51, u52, u53, u54, u55, u56, u57, rfl, hw, p0, p1, p2, p5, p6, p7, p8, p9, p10, p11, p14, p15, p16, p17, p18, p19, p20, p21, p22, fun _ => rfl, p24, p25, p26, p27, p28, p29, p30, p31, p32, p33, p34, p35, p36, p37, p38, p39, p40, p41, z3, z4, z12, z13⟩
    · have hd := hd _ rfl
      simp [Region.binds] at hd
      obtain rfl := p21 (by simp [hd])
      obtain rfl := p23 (by simp [hd])
      refine RI.wpOp_plain rfl rfl ?_
      go_simp
      exact ⟨u4, u17, u18, u19, u20, u21, u22, u23, u24, u25, u26, u27, u28, u29, u30, u31, u32, u33, u34, u35, u36, u37, _, u39, _, _, u42, u43, u44, u45, u46, u47, u48, u49, u50, u51, u52, u53, u54, u55, u56, u57, rfl, hw, p0, p1, p2, p5, p6, p7, p8, p9, p10, p11, p14, p15, p16, p17, p18, p19, p20, p21, p22, p23, fun _ => rfl, p25, p26, p27, p28, p29, p30, p31, p32, p33, p34, p35, p36, p37, p38, p39, p40, p41, z3, z4, z12, z13⟩
    · have hd := hd _ rfl
      simp [Region.binds] at hd
      obtain rfl := p24 (by simp [hd])
      refine RI.wpOp_guard rfl rfl rfl ?_
      refine RF.wp_of (ld rfl rfl (hw.v (h, J) (by simp)).c ?_)
      exact ⟨u4, u17, u18, u19, u20, u21, u22, u23, u24, u25, u26, u27, u28, u29, u30, u31, u32, u33, u34, u35, u36, u37, u38, u39, u40, _, _, u43, u44, u45, u46, u47, u48, u49, u50, u51, u52, u53, u54, u55, u56, u57, rfl, hw, p0, p1, p2, p5, p6, p7, p8, p9, p10, p11, p14, p15, p16, p17, p18, p19, p20, p21, p22, p23, p24, fun _ => rfl, p26, p27, p28, p29, p30, p31, p32, p33, p34, p35, p36, p37, p38, p39, p40, p41, z3, z4, z12, z13⟩
    · have hd := hd _ rfl
      simp [Region.binds] at hd
      obtain rfl := p24 (by simp [hd])
      refine RI.wpOp_guard rfl rfl rfl ?_
      refine RF.wp_of (ld rfl rfl (hw.v (g, P) (by simp)).c ?_)
      exact ⟨u4, u17, u18, u19, u20, u21, u22, u23, u24, u25, u26, u27, u28, u29, u30, u31, u32, u33, u34, u35, u36, u37, u38, u39, u40, _, u42, _, u44, u45, u46, u47, u48, u49, u50, u51, u52, u53, u54, u55, u56, u57, rfl, hw, p0, p1, p2, p5, p6, p7, p8, p9, p10, p11, p14, p15, p16, p17, p18, p19, p20, p21, p22, p23, p24, p25, fun _ => rfl, p27, p28, p29, p30, p31, p32, p33, p34, p35, p36, p37, p38, p39, p40, p41, z3, z4, z12, z13⟩
    · have hd := hd _ rfl
      simp [Region.binds] at hd
      obtain rfl := p24 (by simp [hd])
      obtain rfl := p25 (by simp [hd])
      obtain rfl := p26 (by simp [hd])
      refine RI.wpOp_guard rfl rfl rfl ?_
      go_simp
      refine (KJ2.out _).mono ?_
      rintro e w1 ⟨rfl, hb1⟩
      exact ⟨u4, u17, u18, u19, u20, u21, u22, u23, u24, u25, u26, u27, u28, u29, u30, u31, u32, u33, u34, u35, u36, u37, u38, u39, u40, _, _, _, _, u45, u46, u47, u48, u49, u50, u51, u52, u53, u54, u55, u56, u57, rfl, Mem_below hw hb1, p0, p1, p2, p5, p6, p7, p8, p9, p10, p11, p14, p15, p16, p17, p18, p19, p20, p21, p22, p23, p24, p25, p26, fun _ => rfl, p28, p29, p30, p31, p32, p33, p34, p35, p36, p37, p38, p39, p40, p41, (fun h => Vl_below (z3 h) hb1), (fun h => Ls_below (z4 h) hb1), (fun h => Vl_below (z12 h) hb1), (fun h => Ls_below (z13 h) hb1)⟩
    · have hd := hd _ rfl
      simp [Region.binds] at hd
      obtain rfl := p24 (by simp [hd])
      refine RI.wpOp_guard rfl rfl rfl ?_
      refine RF.wp_of (ld rfl rfl (hw.v (h, J) (by simp)).c ?_)
      exact ⟨u4, u17, u18, u19, u20, u21, u22, u23, u24, u25, u26, u27, u28, u29, u30, u31, u32, u33, u34, u35, u36, u37, u38, u39, u40, _, u42, u43, u44, _, u46, u47, u48, u49, u50, u51, u52, u53, u54, u55, u56, u57, rfl, hw, p0, p1, p2, p5, p6, p7, p8, p9, p10, p11, p14, p15, p16, p17, p18, p19, p20, p21, p22, p23, p24, p25, p26, p27, fun _ => rfl, p29, p30, p31, p32, p33, p34, p35, p36, p37, p38, p39, p40, p41, z3, z4, z12, z13⟩
    · have hd := hd _ rfl
      simp [Region.binds] at hd
      obtain rfl := p24 (by simp [hd])
      obtain rfl := p27 (by simp [hd])
      obtain rfl := p28 (by simp [hd])
      refine RI.wpOp_guard rfl rfl rfl ?_
      refine RF.wp_of (eq (b := true) rfl rfl rfl (same_self _ _) ?_)
      exact ⟨u4, u17, u18, u19, u20, u21, u22, u23, u24, u25, u26, u27, u28, u29, u30, u31, u32, u33, u34, u35, u36, u37, u38, u39, u40, _, u42, u43, _, _, _, u47, u48, u49, u50, u51, u52, u53, u54, u55, u56, u57, rfl, hw, p0, p1, p2, p5, p6, p7, p8, p9, p10, p11, p14, p15, p16, p17, p18, p19, p20, p21, p22, p23, p24, p25, p26, p27, p28, fun _ => rfl, p30, p31, p32, p33, p34, p35, p36, p37, p38, p39, p40, p41, z3, z4, z12, z13⟩
    · have hd := hd _ rfl
      simp [Region.binds] at hd
      obtain rfl := p24 (by simp [hd])
      obtain rfl := p29 (by simp [hd])
      refine RI.wpOp_plain rfl rfl ?_
      go_simp
      exact ⟨u4, u17, u18, u19, u20, u21, u22, u23, u24, u25, u26, u27, u28, u29, u30, u31, u32, u33, u34, u35, u36, u37, u38, u39, u40, _, u42, u43, u44, u45, _, _, u48, u49, u50, u51, u52, u53, u54, u55, u56, u57, rfl, hw, p0, p1, p2, p5, p6, p7, p8, p9, p10, p11, p14, p15, p16, p17, p18, p19, p20, p21, p22, p23, p24, p25, p26, p27, p28, p29, fun _ => rfl, p31, p32, p33, p34, p35, p36, p37, p38, p39, p40, p41, z3, z4, z12, z13⟩
    · have hd := hd _ rfl
      simp [Region.binds] at hd
      obtain rfl := p27 (by simp [hd])
      obtain rfl := p30 (by simp [hd])
      refine RI.wpOp_plain rfl rfl ?_
      go_simp
      exact ⟨u4, u17, u18, u19, u20, u21, u22, u23, u24, u25, u26, u27, u28, u29, u30, u31, u32, u33, u34, u35, u36, u37, u38, u39, u40, u41, u42, u43, _, u45, u46, _, _, u49, u50, u51, u52, u53, u54, u55, u56, u57, rfl, hw, p0, p1, p2, p5, p6, p7, p8, p9, p10, p11, p14, p15, p16, p17, p18, p19, p20, p21, p22, p23, p24, p25, p26, p27, p28, p29, p30, fun _ => rfl, p32, p33, p34, p35, p36, p37, p38, p39, p40, p41, z3, z4, z12, z13⟩
    · have hd := hd _ rfl
      simp [Region.binds] at hd
      obtain rfl := p31 (by simp [hd])
      refine RI.wpOp_guard rfl rfl rfl ?_
      refine RF.wp_of (ld rfl rfl (hw.v (g, P) (by simp)).c ?_)
      exact ⟨u4, u17, u18, u19, u20, u21, u22, u23, u24, u25, u26, u27, u28, u29, u30, u31, u32, u33, u34, u35, u36, u37, u38, u39, u40, u41, u42, u43, u44, u45, u46, u47, _, _, u50, u51, u52, u53, u54, u55, u56, u57, rfl, hw, p0, p1, p2, p5, p6, p7, p8, p9, p10, p11, p14, p15, p16, p17, p18, p19, p20, p21, p22, p23, p24, p25, p26, p27, p28, p29, p30, p31, fun _ => rfl, p33, p34, p35, p36, p37, p38, p39, p40, p41, z3, z4, z12, z13⟩
    · have hd := hd _ rfl
      simp [Region.binds] at hd
      obtain rfl := p31 (by simp [hd])
      refine RI.wpOp_guard rfl rfl rfl ?_
      refine RF.wp_of (ld rfl rfl (hw.v (h, J) (by simp)).c ?_)
      exact ⟨u4, u17, u18, u19, u20, u21, u22, u23, u24, u25, u26, u27, u28, u29, u30, u31, u32, u33, u34, u35, u36, u37, u38, u39, u40, u41, u42, u43, u44, u45, u46, u47, _, u49, _, u51, u52, u53, u54, u55, u56, u57, rfl, hw, p0, p1, p2, p5, p6, p7, p8, p9, p10, p11, p14, p15, p16, p17, p18, p19, p20, p21, p22, p23, p24, p25, p26, p27, p28, p29, p30, p31, p32, fun _ => rfl, p34, p35, p36, p37, p38, p39, p40, p41, z3, z4, z12, z13⟩
    · have hd := hd _ rfl
      simp [Region.binds] at hd
      obtain rfl := p31 (by simp [hd])
      obtain rfl := p32 (by simp [hd])
      obtain rfl := p33 (by simp [hd])
      refine RI.wpOp_guard rfl rfl rfl ?_
      go_simp
      refine (KW1.out _).mono ?_
      rintro e w1 ⟨rfl, hb1⟩
      exact ⟨u4, u17, u18, u19, u20, u21, u22, u23, u24, u25, u26, u27, u28, u29, u30, u31, u32, u33, u34, u35, u36, u37, u38, u39, u40, u41, u42, u43, u44, u45, u46, u47, _, _, _, _, u52, u53, u54, u55, u56, u57, rfl, Mem_below hw hb1, p0, p1, p2, p5, p6, p7, p8, p9, p10, p11, p14, p15, p16, p17, p18, p19, p20, p21, p22, p23, p24, p25, p26, p27, p28, p29, p30, p31, p32, p33, fun _ => rfl, p35, p36, p37, p38, p39, p40, p41, (fun h => Vl_below (z3 h) hb1), (fun h => Ls_below (z4 h) hb1), (fun h => Vl_below (z12 h) hb1), (fun h => Ls_below (z13 h) hb1)⟩
    · have hd := hd _ rfl
      simp [Region.binds] at hd
      obtain rfl := p31 (by simp [hd])
      obtain rfl := p34 (by simp [hd])
      refine RI.wpOp_plain rfl rfl ?_
      go_simp
      exact ⟨u4, u17, u18, u19, u20, u21, u22, u23, u24, u25, u26, u27, u28, u29, u30, u31, u32, u33, u34, u35, u36, u37, u38, u39, u40, u41, u42, u43, u44, u45, u46, u47, _, u49, u50, _, _, u53, u54, u55, u56, u57, rfl, hw, p0, p1, p2, p5, p6, p7, p8, p9, p10, p11, p14, p15, p16, p17, p18, p19, p20, p21, p22, p23, p24, p25, p26, p27, p28, p29, p30, p31, p32, p33, p34, fun _ => rfl, p36, p37, p38, p39, p40, p41, z3, z4, z12, z13⟩
    · have hd := hd _ rfl
      simp [Region.binds] at hd
      obtain rfl := p34 (by simp [hd])
      obtain rfl := p35 (by simp [hd])
      refine RI.wpOp_plain rfl rfl ?_
      go_simp
      exact ⟨u4, u17, u18, u19, u20, u21, u22, u23, u24, u25, u26, u27, u28, u29, u30, u31, u32, u33, u34, u35, u36, u37, u38, u39, u40, u41, u42, u43, u44, u45, u46, u47, u48, u49, u50, _, _, _, u54, u55, u56, u57, rfl, hw, p0, p1, p2, p5, p6, p7, p8, p9, p10, p11, p14, p15, p16, p17, p18, p19, p20, p21, p22, p23, p24, p25, p26, p27, p28, p29, p30, p31, p32, p33, p34, p35, fun _ => rfl, p37, p38, p39, p40, p41, z3, z4, z12, z13⟩
    · have hd := hd _ rfl
      simp [Region.binds] at hd
      obtain rfl := p36 (by simp [hd])
      refine RI.wpOp_guard rfl rfl rfl ?_
      refine RF.wp_of (ld rfl rfl (hw.v (g + 1, Q) (by simp)).c ?_)
      exact ⟨u4, u17, u18, u19, u20, u21, u22, u23, u24, u25, u26, u27, u28, u29, u30, u31, u32, u33, u34, u35, u36, u37, u38, u39, u40, u41, u42, u43, u44, u45, u46, u47, u48, u49, u50, u51, u52, _, _, u55, u56, u57, rfl, hw, p0, p1, p2, p5, p6, p7, p8, p9, p10, p11, p14, p15, p16, p17, p18, p19, p20, p21, p22, p23, p24, p25, p26, p27, p28, p29, p30, p31, p32, p33, p34, p35, p36, fun _ => rfl, p38, p39, p40, p41, z3, z4, z12, z13⟩
    · have hd := hd _ rfl
      simp [Region.binds] at hd
      obtain rfl := p36 (by simp [hd])
      refine RI.wpOp_guard rfl rfl rfl ?_
      refine RF.wp_of (ld rfl rfl (hw.v (h, J) (by simp)).c ?_)
      exact ⟨u4, u17, u18, u19, u20, u21, u22, u23, u24, u25, u26, u27, u28, u29, u30, u31, u32, u33, u34, u35, u36, u37, u38, u39, u40, u41, u42, u43, u44, u45, u46, u47, u48, u49, u50, u51, u52, _, u54, _, u56, u57, rfl, hw, p0, p1, p2, p5, p6, p7, p8, p9, p10, p11, p14, p15, p16, p17, p18, p19, p20, p21, p22, p23, p24, p25, p26, p27, p28, p29, p30, p31, p32, p33, p34, p35, p36, p37, fun _ => rfl, p39, p40, p41, z3, z4, z12, z13⟩
    · have hd := hd _ rfl
      simp [Region.binds] at hd
      obtain rfl := p36 (by simp [hd])
      obtain rfl := p37 (by simp [hd])
      obtain rfl := p38 (by simp [hd])
      refine RI.wpOp_guard rfl rfl rfl ?_
      go_simp
      refine (KW2.out _).mono ?_
      rintro e w1 ⟨rfl, hb1⟩
      exact ⟨u4, u17, u18, u19, u20, u21, u22, u23, u24, u25, u26, u27, u28, u29, u30, u31, u32, u33, u34, u35, u36, u37, u38, u39, u40, u41, u42, u43, u44, u45, u46, u47, u48, u49, u50, u51, u52, _, _, _, _, u57, rfl, Mem_below hw hb1, p0, p1, p2, p5, p6, p7, p8, p9, p10, p11, p14, p15, p16, p17, p18, p19, p20, p21, p22, p23, p24, p25, p26, p27, p28, p29, p30, p31, p32, p33, p34, p35, p36, p37, p38, fun _ => rfl, p40, p41, (fun h => Vl_below (z3 h) hb1), (fun h => Ls_below (z4 h) hb1), (fun h => Vl_below (z12 h) hb1), (fun h => Ls_below (z13 h) hb1)⟩
    · have hd := hd _ rfl
      simp [Region.binds] at hd
      obtain rfl := p36 (by simp [hd])
      obtain rfl := p39 (by simp [hd])
      refine RI.wpOp_plain rfl rfl ?_
      go_simp
      exact ⟨u4, u17, u18, u19, u20, u21, u22, u23, u24, u25, u26, u27, u28, u29, u30, u31, u32, u33, u34, u35, u36, u37, u38, u39, u40, u41, u42, u43, u44, u45, u46, u47, u48, u49, u50, u51, u52, _, u54, u55, _, _, rfl, hw, p0, p1, p2, p5, p6, p7, p8, p9, p10, p11, p14, p15, p16, p17, p18, p19, p20, p21, p22, p23, p24, p25, p26, p27, p28, p29, p30, p31, p32, p33, p34, p35, p36, p37, p38, p39, fun _ => rfl, p41, z3, z4, z12, z13⟩
    · have hd := hd _ rfl
      simp [Region.binds] at hd
      obtain rfl := p0 (by simp [hd])
      obtain rfl := p1 (by simp [hd])
      obtain rfl := p2 (by simp [hd])
      obtain rfl := p5 (by simp [hd])
      obtain rfl := p6 (by simp [hd])
      obtain rfl := p7 (by simp [hd])
      obtain rfl := p8 (by simp [hd])
      obtain rfl := p9 (by simp [hd])
      obtain rfl := p10 (by simp [hd])
      obtain rfl := p11 (by simp [hd])
      obtain rfl := p14 (by simp [hd])
      obtain rfl := p15 (by simp [hd])
      obtain rfl := p16 (by simp [hd])
      obtain rfl := p17 (by simp [hd])
      obtain rfl := p18 (by simp [hd])
      obtain rfl := p19 (by simp [hd])
      obtain rfl := p20 (by simp [hd])
      obtain rfl := p21 (by simp [hd])
      obtain rfl := p22 (by simp [hd])
      obtain rfl := p23 (by simp [hd])
      obtain rfl := p24 (by simp [hd])
      obtain rfl := p25 (by simp [hd])
      obtain rfl := p26 (by simp [hd])
      obtain rfl := p27 (by simp [hd])
      obtain rfl := p28 (by simp [hd])
      obtain rfl := p29 (by simp [hd])
      obtain rfl := p30 (by simp [hd])
      obtain rfl := p31 (by simp [hd])
      obtain rfl := p32 (by simp [hd])
      obtain rfl := p33 (by simp [hd])
      obtain rfl := p34 (by simp [hd])
      obtain rfl := p35 (by simp [hd])
      obtain rfl := p36 (by simp [hd])
      obtain rfl := p37 (by simp [hd])
      obtain rfl := p38 (by simp [hd])
      obtain rfl := p39 (by simp [hd])
      obtain rfl := p40 (by simp [hd])
      refine RI.wpOp_plain rfl rfl ?_
      go_simp
      exact ⟨_, _, _, _, u20, u21, _, _, _, _, _, _, _, u29, u30, _, _, _, _, _, _, _, _, _, _, _, _, _, _, _, _, _, _, _, _, _, _, _, _, _, _, _, rfl, hw, p0, p1, p2, p5, p6, p7, p8, p9, p10, p11, p14, p15, p16, p17, p18, p19, p20, p21, p22, p23, p24, p25, p26, p27, p28, p29, p30, p31, p32, p33, p34, p35, p36, p37, p38, p39, p40, fun _ => rfl, z3, z4, z12, z13⟩
  · skip
    intro d x wx hI hd
    obtain ⟨u4, u17, u18, u19, u20, u21, u22, u23, u24, u25, u26, u27, u28, u29, u30, u31, u32, u33, u34, u35, u36, u37, u38, u39, u40, u41, u42, u43, u44, u45, u46, u47, u48, u49, u50, u51, u52, u53, u54, u55, u56, u57, rfl, hw, p0, p1, p2, p5, p6, p7, p8, p9, p10, p11, p14, p15, p16, p17, p18, p19, p20, p21, p22, p23, p24, p25, p26, p27, p28, p29, p30, p31, p32, p33, p34, p35, p36, p37, p38, p39, p40, p41, z3, z4, z12, z13⟩ := hI
    obtain rfl := p41 (hd 41 (by decide))
    clear p0 p1 p2 p5 p6 p7 p8 p9 p10 p11 p14 p15 p16 p17 p18 p19 p20 p21 p22 p23 p24 p25 p26 p27 p28 p29 p30 p31 p32 p33 p34 p35 p36 p37 p38 p39 p40 z3 z4 z12 z13
    have HB : Hid (Below w.heap.size w wx) := hw.b
    clear hw
    go_wp2_with fail
    go_ret
    exact ⟨rfl, HB.out⟩
end Bl
end Go.Proofs.Ytcgjkombefhjmaa
/- lampbearerkeep.BloomWithin: to be within is an order, of which what is joined is the least that has both. -/
namespace Go.Proofs.Ytcgjkombefhjmaa
namespace Bl
open Go.RowKit Sp
theorem wi_trans {P Q R : Nat → Bool} (h1 : wi P Q = true) (h2 : wi Q R = true) : wi P R = true := (wi_iff _ _).2 fun n hn hp => (wi_iff _ _).1 h2 n hn ((wi_iff _ _).1 h1 n hn hp)
theorem wi_anti {P Q : Nat → Bool} (h1 : wi P Q = true) (h2 : wi Q P = true) : same 32 (FB P) (FB Q) = true := (same_FB _ _).2 fun n hn => by
  rw [Bool.eq_iff_iff]
  exact ⟨(wi_iff _ _).1 h1 n hn, (wi_iff _ _).1 h2 n hn⟩
theorem wi_jn (P Q R : Nat → Bool) : wi (jn P Q) R = (wi P R && wi Q R) := by
  rw [Bool.eq_iff_iff, Bool.and_eq_true, wi_iff, wi_iff, wi_iff]
  unfold jn
  constructor
  · intro h
    exact ⟨fun n hn hp => h n hn (by rw [hp]; rfl), fun n hn hq => h n hn (by rw [hq]; exact Bool.or_true _)⟩
  · rintro ⟨h1, h2⟩ n hn h
    rcases Bool.or_eq_true _ _ ▸ h with h | h
    · exact h1 n hn h
    · exact h2 n hn h
set_option maxHeartbeats 2000000 in
set_option maxRecDepth 100000 in
theorem law_within_a (P Q R : Nat → Bool) (c : Bool) (w : World) (ha : wi P Q = false) (hc : wi Q R = c) (hd : wi P R = false) :
    Calls Try.prog 6 #[Hv (FB P), Hv (FB Q), Hv (FB R)] w fun e w' => e = .returned (.bool true) ∧ Below w.heap.size w w' := by
  have KP : Hid (∀ w : World, Calls Try.prog 11 #[Hv (FB P), Hv (FB P)] w fun e w' => e = .returned (.bool true) ∧ Below w.heap.size w w') := fun w => by have := within_any P P w; rwa [wi_self] at this
  have KA : Hid (∀ w : World, Calls Try.prog 11 #[Hv (FB P), Hv (FB Q)] w fun e w' => e = .returned (.bool false) ∧ Below w.heap.size w w') := fun w => by have := within_any P Q w; rwa [ha] at this
  have KC : Hid (∀ w : World, Calls Try.prog 11 #[Hv (FB Q), Hv (FB R)] w fun e w' => e = .returned (.bool c) ∧ Below w.heap.size w w') := fun w => by have := within_any Q R w; rwa [hc] at this
  have KD : Hid (∀ w : World, Calls Try.prog 11 #[Hv (FB P), Hv (FB R)] w fun e w' => e = .returned (.bool false) ∧ Below w.heap.size w w') := fun w => by have := within_any P R w; rwa [hd] at this
  have KJ : Hid (∀ w : World, Calls Try.prog 9 #[Hv (FB P), Hv (FB Q)] w fun e w' => e = .returned (Hv (FB (jn P Q))) ∧ Below w.heap.size w w') := fun w => join_any P Q w
  have KX : Hid (∀ w : World, Calls Try.prog 11 #[Hv (FB (jn P Q)), Hv (FB R)] w fun e w' => e = .returned (.bool false) ∧ Below w.heap.size w w') := fun w => by have := within_any (jn P Q) R w; rw [wi_jn, hc, hd] at this; exact this
  clear ha hc hd
  go_enter Try.func6, Try.ntmps6
  go_upto_region 1 with fail
  dsimp only [Hv]
  have m0 := Mem_nil w
  have m1 := Mem_box m0 (P) 24
  have z1 : (w.alloc (.cells (h32 (FB (P))).toArray 24)).heap.size = w.heap.size + 1 := by simp
  generalize w.alloc (.cells (h32 (FB (P))).toArray 24) = W1 at m1 z1 ⊢
  have m2 := Mem_box m1 (Q) 24
  have z2 : (W1.alloc (.cells (h32 (FB (Q))).toArray 24)).heap.size = w.heap.size + 2 := by simp [z1]
  rw [z1] at m2
  generalize W1.alloc (.cells (h32 (FB (Q))).toArray 24) = W2 at m2 z2 ⊢
  have m3 := Mem_box m2 (R) 24
  have z3 : (W2.alloc (.cells (h32 (FB (R))).toArray 24)).heap.size = w.heap.size + 3 := by simp [z2]
  rw [z2] at m3
  generalize W2.alloc (.cells (h32 (FB (R))).toArray 24) = W3 at m3 z3 ⊢
  generalize (h32 (FB (P))).toArray = c0
  generalize (h32 (FB (Q))).toArray = c1
  generalize (h32 (FB (R))).toArray = c2
  clear m1 z1 m2 z2 m0 z3
  go_wp2_with fail
  refine (alive10_any _).mono ?_
  rintro e w1 ⟨rfl, hb1⟩
  have m4 := Mem_below m3 hb1
  clear m3 hb1
  go_upto_region 3 with fail
  refine RS.wp_region_flat (Mem w [(w.heap.size + 2, R), (w.heap.size + 1, Q), (w.heap.size, P)]) 35 (by kernel_rfl) (m4) ?_
  simp only [List.take_succ_cons, List.take_zero, List.drop_succ_cons, List.drop_zero]
  refine RS.go1 (v := ?_) (a' := ?_) rfl ?_ ?_ ?_
  rotate_left 2
  · intro K wx hS hK
    refine ld rfl rfl (hS.v (w.heap.size, P) (by simp)).c ?_
    exact hK _ hS
  · simp only [Act.put, List.setIfInBounds_toArray, List.set_cons_succ, List.set_cons_zero]
    rfl
  refine RS.go1 (v := ?_) (a' := ?_) rfl ?_ ?_ ?_
  rotate_left 2
  · intro K wx hS hK
    refine ld rfl rfl (hS.v (w.heap.size, P) (by simp)).c ?_
    exact hK _ hS
  · simp only [Act.put, List.setIfInBounds_toArray, List.set_cons_succ, List.set_cons_zero]
    rfl
  refine RS.go1 (v := ?_) (a' := ?_) rfl ?_ ?_ ?_
  rotate_left 2
  · intro K wx hS hK
    go_simp
    refine (KP.out wx).mono (fun e w2 he => ?_)
    refine ⟨_, he.1, ?_⟩
    exact hK _ (Mem_below hS he.2)
  · simp only [Act.put, List.setIfInBounds_toArray, List.set_cons_succ, List.set_cons_zero]
    rfl
  refine RS.go1 (v := ?_) (a' := ?_) rfl ?_ ?_ ?_
  rotate_left 2
  · intro K wx hS hK
    go_simp
    exact hK _ hS
  · simp only [Act.put, List.setIfInBounds_toArray, List.set_cons_succ, List.set_cons_zero]
    rfl
  refine RS.go1 (v := ?_) (a' := ?_) rfl ?_ ?_ ?_
  rotate_left 2
  · intro K wx hS hK
    go_simp
    exact hK _ hS
  · simp only [Act.put, List.setIfInBounds_toArray, List.set_cons_succ, List.set_cons_zero]
    rfl
  refine RS.go1g (v := ?_) (a' := ?_) (by kernel_rfl) ?_ ?_ ?_
  rotate_left 2
  · intro K wx hS hK
    refine ld rfl rfl (hS.v (w.heap.size, P) (by simp)).c ?_
    exact hK _ hS
  · simp only [Act.put, List.setIfInBounds_toArray, List.set_cons_succ, List.set_cons_zero]
    rfl
  refine RS.go1g (v := ?_) (a' := ?_) (by kernel_rfl) ?_ ?_ ?_
  rotate_left 2
  · intro K wx hS hK
    refine ld rfl rfl (hS.v (w.heap.size + 1, Q) (by simp)).c ?_
    exact hK _ hS
  · simp only [Act.put, List.setIfInBounds_toArray, List.set_cons_succ, List.set_cons_zero]
    rfl
  refine RS.go1g (v := ?_) (a' := ?_) (by kernel_rfl) ?_ ?_ ?_
  rotate_left 2
  · intro K wx hS hK
    go_simp
    refine (KA.out wx).mono (fun e w2 he => ?_)
    refine ⟨_, he.1, ?_⟩
    exact hK _ (Mem_below hS he.2)
  · simp only [Act.put, List.setIfInBounds_toArray, List.set_cons_succ, List.set_cons_zero]
    rfl
  refine RS.go1g (v := ?_) (a' := ?_) (by kernel_rfl) ?_ ?_ ?_
  rotate_left 2
  · intro K wx hS hK
    go_simp
    exact hK _ hS
  · simp only [Act.put, List.setIfInBounds_toArray, List.set_cons_succ, List.set_cons_zero]
    rfl
  refine RS.go0 (a' := ?_) (by kernel_rfl) ?_ ?_
  rotate_left 1
  · simp only [Act.put, List.setIfInBounds_toArray, List.set_cons_succ, List.set_cons_zero]
    rfl
  refine RS.go0 (a' := ?_) (by kernel_rfl) ?_ ?_
  rotate_left 1
  · simp only [Act.put, List.setIfInBounds_toArray, List.set_cons_succ, List.set_cons_zero]
    rfl
  refine RS.go0 (a' := ?_) (by kernel_rfl) ?_ ?_
  rotate_left 1
  · simp only [Act.put, List.setIfInBounds_toArray, List.set_cons_succ, List.set_cons_zero]
    rfl
  refine RS.go1g (v := ?_) (a' := ?_) (by kernel_rfl) ?_ ?_ ?_
  rotate_left 2
  · intro K wx hS hK
    go_simp
    exact hK _ hS
  · simp only [Act.put, List.setIfInBounds_toArray, List.set_cons_succ, List.set_cons_zero]
    rfl
  refine RS.go1g (v := ?_) (a' := ?_) (by kernel_rfl) ?_ ?_ ?_
  rotate_left 2
  · intro K wx hS hK
    go_simp
    exact hK _ hS
  · simp only [Act.put, List.setIfInBounds_toArray, List.set_cons_succ, List.set_cons_zero]
    rfl
  refine RS.go0 (a' := ?_) (by kernel_rfl) ?_ ?_
  rotate_left 1
  · simp only [Act.put, List.setIfInBounds_toArray, List.set_cons_succ, List.set_cons_zero]
    rfl
  refine RS.go0 (a' := ?_) (by kernel_rfl) ?_ ?_
  rotate_left 1
  · simp only [Act.put, List.setIfInBounds_toArray, List.set_cons_succ, List.set_cons_zero]
    rfl
  refine RS.go0 (a' := ?_) (by kernel_rfl) ?_ ?_
  rotate_left 1
  · simp only [Act.put, List.setIfInBounds_toArray, List.set_cons_succ, List.set_cons_zero]
    rfl
  refine RS.go1g (v := ?_) (a' := ?_) (by kernel_rfl) ?_ ?_ ?_
  rotate_left 2
  · intro K wx hS hK
    go_simp
    exact hK _ hS
  · simp only [Act.put, List.setIfInBounds_toArray, List.set_cons_succ, List.set_cons_zero]
    rfl
  refine RS.go1 (v := ?_) (a' := ?_) rfl ?_ ?_ ?_
  rotate_left 2
  · intro K wx hS hK
    go_simp
    exact hK _ hS
  · simp only [Act.put, List.setIfInBounds_toArray, List.set_cons_succ, List.set_cons_zero]
    rfl
  refine RS.go1 (v := ?_) (a' := ?_) rfl ?_ ?_ ?_
  rotate_left 2
  · intro K wx hS hK
    go_simp
    exact hK _ hS
  · simp only [Act.put, List.setIfInBounds_toArray, List.set_cons_succ, List.set_cons_zero]
    rfl
  refine RS.go1g (v := ?_) (a' := ?_) (by kernel_rfl) ?_ ?_ ?_
  rotate_left 2
  · intro K wx hS hK
    refine ld rfl rfl (hS.v (w.heap.size, P) (by simp)).c ?_
    exact hK _ hS
  · simp only [Act.put, List.setIfInBounds_toArray, List.set_cons_succ, List.set_cons_zero]
    rfl
  refine RS.go1g (v := ?_) (a' := ?_) (by kernel_rfl) ?_ ?_ ?_
  rotate_left 2
  · intro K wx hS hK
    refine ld rfl rfl (hS.v (w.heap.size + 1, Q) (by simp)).c ?_
    exact hK _ hS
  · simp only [Act.put, List.setIfInBounds_toArray, List.set_cons_succ, List.set_cons_zero]
    rfl
  refine RS.go1g (v := ?_) (a' := ?_) (by kernel_rfl) ?_ ?_ ?_
  rotate_left 2
  · intro K wx hS hK
    go_simp
    refine (KA.out wx).mono (fun e w2 he => ?_)
    refine ⟨_, he.1, ?_⟩
    exact hK _ (Mem_below hS he.2)
  · simp only [Act.put, List.setIfInBounds_toArray, List.set_cons_succ, List.set_cons_zero]
    rfl
  refine RS.go1g (v := ?_) (a' := ?_) (by kernel_rfl) ?_ ?_ ?_
  rotate_left 2
  · intro K wx hS hK
    go_simp
    exact hK _ hS
  · simp only [Act.put, List.setIfInBounds_toArray, List.set_cons_succ, List.set_cons_zero]
    rfl
  refine RS.go0 (a' := ?_) (by kernel_rfl) ?_ ?_
  rotate_left 1
  · simp only [Act.put, List.setIfInBounds_toArray, List.set_cons_succ, List.set_cons_zero]
    rfl
  refine RS.go0 (a' := ?_) (by kernel_rfl) ?_ ?_
  rotate_left 1
  · simp only [Act.put, List.setIfInBounds_toArray, List.set_cons_succ, List.set_cons_zero]
    rfl
  refine RS.go0 (a' := ?_) (by kernel_rfl) ?_ ?_
  rotate_left 1
  · simp only [Act.put, List.setIfInBounds_toArray, List.set_cons_succ, List.set_cons_zero]
    rfl
  refine RS.go1g (v := ?_) (a' := ?_) (by kernel_rfl) ?_ ?_ ?_
  rotate_left 2
  · intro K wx hS hK
    go_simp
    exact hK _ hS
  · simp only [Act.put, List.setIfInBounds_toArray, List.set_cons_succ, List.set_cons_zero]
    rfl
  refine RS.go1g (v := ?_) (a' := ?_) (by kernel_rfl) ?_ ?_ ?_
  rotate_left 2
  · intro K wx hS hK
    go_simp
    exact hK _ hS
  · simp only [Act.put, List.setIfInBounds_toArray, List.set_cons_succ, List.set_cons_zero]
    rfl
  refine RS.go0 (a' := ?_) (by kernel_rfl) ?_ ?_
  rotate_left 1
  · simp only [Act.put, List.setIfInBounds_toArray, List.set_cons_succ, List.set_cons_zero]
    rfl
  refine RS.go0 (a' := ?_) (by kernel_rfl) ?_ ?_
  rotate_left 1
  · simp only [Act.put, List.setIfInBounds_toArray, List.set_cons_succ, List.set_cons_zero]
    rfl
  refine RS.go0 (a' := ?_) (by kernel_rfl) ?_ ?_
  rotate_left 1
  · simp only [Act.put, List.setIfInBounds_toArray, List.set_cons_succ, List.set_cons_zero]
    rfl
  refine RS.go0 (a' := ?_) (by kernel_rfl) ?_ ?_
  rotate_left 1
  · simp only [Act.put, List.setIfInBounds_toArray, List.set_cons_succ, List.set_cons_zero]
    rfl
  refine RS.go1g (v := ?_) (a' := ?_) (by kernel_rfl) ?_ ?_ ?_
  rotate_left 2
  · intro K wx hS hK
    go_simp
    exact hK _ hS
  · simp only [Act.put, List.setIfInBounds_toArray, List.set_cons_succ, List.set_cons_zero]
    rfl
  refine RS.go1 (v := ?_) (a' := ?_) rfl ?_ ?_ ?_
  rotate_left 2
  · intro K wx hS hK
    go_simp
    exact hK _ hS
  · simp only [Act.put, List.setIfInBounds_toArray, List.set_cons_succ, List.set_cons_zero]
    rfl
  refine RS.go_end ?_
  intro w9 m9
  clear m4
  go_upto_region 5 with fail
  refine RS.wp_region_one (Mem w [(w.heap.size + 2, R), (w.heap.size + 1, Q), (w.heap.size, P)]) (by kernel_rfl) (by kernel_rfl) (Mem_drew m9) ?_
  dsimp only [List.toList_toArray]
  refine RS.go1 (v := ?_) (a' := ?_) rfl ?_ ?_ ?_
  rotate_left 2
  · intro K wx hS hK
    refine ld rfl rfl (hS.v (w.heap.size, P) (by simp)).c ?_
    exact hK _ hS
  · simp only [Act.put, List.setIfInBounds_toArray, List.set_cons_succ, List.set_cons_zero]
    rfl
  refine RS.go1 (v := ?_) (a' := ?_) rfl ?_ ?_ ?_
  rotate_left 2
  · intro K wx hS hK
    refine ld rfl rfl (hS.v (w.heap.size + 1, Q) (by simp)).c ?_
    exact hK _ hS
  · simp only [Act.put, List.setIfInBounds_toArray, List.set_cons_succ, List.set_cons_zero]
    rfl
  refine RS.go1 (v := ?_) (a' := ?_) rfl ?_ ?_ ?_
  rotate_left 2
  · intro K wx hS hK
    go_simp
    refine (KJ.out wx).mono (fun e w2 he => ?_)
    refine ⟨_, he.1, ?_⟩
    exact hK _ (Mem_below hS he.2)
  · simp only [Act.put, List.setIfInBounds_toArray, List.set_cons_succ, List.set_cons_zero]
    rfl
  refine RS.go1 (v := ?_) (a' := ?_) rfl ?_ ?_ ?_
  rotate_left 2
  · intro K wx hS hK
    refine ld rfl rfl (hS.v (w.heap.size + 2, R) (by simp)).c ?_
    exact hK _ hS
  · simp only [Act.put, List.setIfInBounds_toArray, List.set_cons_succ, List.set_cons_zero]
    rfl
  refine RS.go1 (v := ?_) (a' := ?_) rfl ?_ ?_ ?_
  rotate_left 2
  · intro K wx hS hK
    go_simp
    refine (KX.out wx).mono (fun e w2 he => ?_)
    refine ⟨_, he.1, ?_⟩
    exact hK _ (Mem_below hS he.2)
  · simp only [Act.put, List.setIfInBounds_toArray, List.set_cons_succ, List.set_cons_zero]
    rfl
  refine RS.go1 (v := ?_) (a' := ?_) rfl ?_ ?_ ?_
  rotate_left 2
  · intro K wx hS hK
    refine ld rfl rfl (hS.v (w.heap.size, P) (by simp)).c ?_
    exact hK _ hS
  · simp only [Act.put, List.setIfInBounds_toArray, List.set_cons_succ, List.set_cons_zero]
    rfl
  refine RS.go1 (v := ?_) (a' := ?_) rfl ?_ ?_ ?_
  rotate_left 2
  · intro K wx hS hK
    refine ld rfl rfl (hS.v (w.heap.size + 2, R) (by simp)).c ?_
    exact hK _ hS
  · simp only [Act.put, List.setIfInBounds_toArray, List.set_cons_succ, List.set_cons_zero]
    rfl
  refine RS.go1 (v := ?_) (a' := ?_) rfl ?_ ?_ ?_
  rotate_left 2
  · intro K wx hS hK
    go_simp
    refine (KD.out wx).mono (fun e w2 he => ?_)
    refine ⟨_, he.1, ?_⟩
    exact hK _ (Mem_below hS he.2)
  · simp only [Act.put, List.setIfInBounds_toArray, List.set_cons_succ, List.set_cons_zero]
    rfl
  refine RS.go1 (v := ?_) (a' := ?_) rfl ?_ ?_ ?_
  rotate_left 2
  · intro K wx hS hK
    go_simp
    exact hK _ hS
  · simp only [Act.put, List.setIfInBounds_toArray, List.set_cons_succ, List.set_cons_zero]
    rfl
  refine RS.go0 (a' := ?_) (by kernel_rfl) ?_ ?_
  rotate_left 1
  · simp only [Act.put, List.setIfInBounds_toArray, List.set_cons_succ, List.set_cons_zero]
    rfl
  refine RS.go0 (a' := ?_) (by kernel_rfl) ?_ ?_
  rotate_left 1
  · simp only [Act.put, List.setIfInBounds_toArray, List.set_cons_succ, List.set_cons_zero]
    rfl
  refine RS.go0 (a' := ?_) (by kernel_rfl) ?_ ?_
  rotate_left 1
  · simp only [Act.put, List.setIfInBounds_toArray, List.set_cons_succ, List.set_cons_zero]
    rfl
  refine RS.go1 (v := ?_) (a' := ?_) rfl ?_ ?_ ?_
  rotate_left 2
  · intro K wx hS hK
    go_simp
    exact hK _ hS
  · simp only [Act.put, List.setIfInBounds_toArray, List.set_cons_succ, List.set_cons_zero]
    rfl
  refine RS.go1 (v := ?_) (a' := ?_) rfl ?_ ?_ ?_
  rotate_left 2
  · intro K wx hS hK
    go_simp
    exact hK _ hS
  · simp only [Act.put, List.setIfInBounds_toArray, List.set_cons_succ, List.set_cons_zero]
    rfl
  refine RS.go1 (v := ?_) (a' := ?_) rfl ?_ ?_ ?_
  rotate_left 2
  · intro K wx hS hK
    go_simp
    exact hK _ hS
  · simp only [Act.put, List.setIfInBounds_toArray, List.set_cons_succ, List.set_cons_zero]
    rfl
  refine RS.go_end ?_
  intro w8 m8
  have b8 := m8.b
  clear m8 m9
  go_wp2_with fail
  go_ret
  exact ⟨by simp, b8⟩
set_option maxHeartbeats 2000000 in
set_option maxRecDepth 100000 in
theorem law_within_b (P Q R : Nat → Bool) (c : Bool) (w : World) (ha : wi P Q = false) (hc : wi Q R = c) (hd : wi P R = true) :
    Calls Try.prog 6 #[Hv (FB P), Hv (FB Q), Hv (FB R)] w fun e w' => e = .returned (.bool true) ∧ Below w.heap.size w w' := by
  have KP : Hid (∀ w : World, Calls Try.prog 11 #[Hv (FB P), Hv (FB P)] w fun e w' => e = .returned (.bool true) ∧ Below w.heap.size w w') := fun w => by have := within_any P P w; rwa [wi_self] at this
  have KA : Hid (∀ w : World, Calls Try.prog 11 #[Hv (FB P), Hv (FB Q)] w fun e w' => e = .returned (.bool false) ∧ Below w.heap.size w w') := fun w => by have := within_any P Q w; rwa [ha] at this
  have KC : Hid (∀ w : World, Calls Try.prog 11 #[Hv (FB Q), Hv (FB R)] w fun e w' => e = .returned (.bool c) ∧ Below w.heap.size w w') := fun w => by have := within_any Q R w; rwa [hc] at this
  have KD : Hid (∀ w : World, Calls Try.prog 11 #[Hv (FB P), Hv (FB R)] w fun e w' => e = .returned (.bool true) ∧ Below w.heap.size w w') := fun w => by have := within_any P R w; rwa [hd] at this
  have KJ : Hid (∀ w : World, Calls Try.prog 9 #[Hv (FB P), Hv (FB Q)] w fun e w' => e = .returned (Hv (FB (jn P Q))) ∧ Below w.heap.size w w') := fun w => join_any P Q w
  have KX : Hid (∀ w : World, Calls Try.prog 11 #[Hv (FB (jn P Q)), Hv (FB R)] w fun e w' => e = .returned (.bool c) ∧ Below w.heap.size w w') := fun w => by have := within_any (jn P Q) R w; rw [wi_jn, hc, hd] at this; exact this
  clear ha hc hd
  go_enter Try.func6, Try.ntmps6
  go_upto_region 1 with fail
  dsimp only [Hv]
  have m0 := Mem_nil w
  have m1 := Mem_box m0 (P) 24
  have z1 : (w.alloc (.cells (h32 (FB (P))).toArray 24)).heap.size = w.heap.size + 1 := by simp
  generalize w.alloc (.cells (h32 (FB (P))).toArray 24) = W1 at m1 z1 ⊢
  have m2 := Mem_box m1 (Q) 24
  have z2 : (W1.alloc (.cells (h32 (FB (Q))).toArray 24)).heap.size = w.heap.size + 2 := by simp [z1]
  rw [z1] at m2
  generalize W1.alloc (.cells (h32 (FB (Q))).toArray 24) = W2 at m2 z2 ⊢
  have m3 := Mem_box m2 (R) 24
  have z3 : (W2.alloc (.cells (h32 (FB (R))).toArray 24)).heap.size = w.heap.size + 3 := by simp [z2]
  rw [z2] at m3
  generalize W2.alloc (.cells (h32 (FB (R))).toArray 24) = W3 at m3 z3 ⊢
  generalize (h32 (FB (P))).toArray = c0
  generalize (h32 (FB (Q))).toArray = c1
  generalize (h32 (FB (R))).toArray = c2
  clear m1 z1 m2 z2 m0 z3
  go_wp2_with fail
  refine (alive10_any _).mono ?_
  rintro e w1 ⟨rfl, hb1⟩
  have m4 := Mem_below m3 hb1
  clear m3 hb1
  go_upto_region 3 with fail
  refine RS.wp_region_flat (Mem w [(w.heap.size + 2, R), (w.heap.size + 1, Q), (w.heap.size, P)]) 35 (by kernel_rfl) (m4) ?_
  simp only [List.take_succ_cons, List.take_zero, List.drop_succ_cons, List.drop_zero]
  refine RS.go1 (v := ?_) (a' := ?_) rfl ?_ ?_ ?_
  rotate_left 2
  · intro K wx hS hK
    refine ld rfl rfl (hS.v (w.heap.size, P) (by simp)).c ?_
    exact hK _ hS
  · simp only [Act.put, List.setIfInBounds_toArray, List.set_cons_succ, List.set_cons_zero]
    rfl
  refine RS.go1 (v := ?_) (a' := ?_) rfl ?_ ?_ ?_
  rotate_left 2
  · intro K wx hS hK
    refine ld rfl rfl (hS.v (w.heap.size, P) (by simp)).c ?_
    exact hK _ hS
  · simp only [Act.put, List.setIfInBounds_toArray, List.set_cons_succ, List.set_cons_zero]
    rfl
  refine RS.go1 (v := ?_) (a' := ?_) rfl ?_ ?_ ?_
  rotate_left 2
  · intro K wx hS hK
    go_simp
    refine (KP.out wx).mono (fun e w2 he => ?_)
    refine ⟨_, he.1, ?_⟩
    exact hK _ (Mem_below hS he.2)
  · simp only [Act.put, List.setIfInBounds_toArray, List.set_cons_succ, List.set_cons_zero]
    rfl
  refine RS.go1 (v := ?_) (a' := ?_) rfl ?_ ?_ ?_
  rotate_left 2
  · intro K wx hS hK
    go_simp
    exact hK _ hS
  · simp only [Act.put, List.setIfInBounds_toArray, List.set_cons_succ, List.set_cons_zero]
    rfl
  refine RS.go1 (v := ?_) (a' := ?_) rfl ?_ ?_ ?_
  rotate_left 2
  · intro K wx hS hK
    go_simp
    exact hK _ hS
  · simp only [Act.put, List.setIfInBounds_toArray, List.set_cons_succ, List.set_cons_zero]
    rfl
  refine RS.go1g (v := ?_) (a' := ?_) (by kernel_rfl) ?_ ?_ ?_
  rotate_left 2
  · intro K wx hS hK
    refine ld rfl rfl (hS.v (w.heap.size, P) (by simp)).c ?_
    exact hK _ hS
  · simp only [Act.put, List.setIfInBounds_toArray, List.set_cons_succ, List.set_cons_zero]
    rfl
  refine RS.go1g (v := ?_) (a' := ?_) (by kernel_rfl) ?_ ?_ ?_
  rotate_left 2
  · intro K wx hS hK
    refine ld rfl rfl (hS.v (w.heap.size + 1, Q) (by simp)).c ?_
    exact hK _ hS
  · simp only [Act.put, List.setIfInBounds_toArray, List.set_cons_succ, List.set_cons_zero]
    rfl
  refine RS.go1g (v := ?_) (a' := ?_) (by kernel_rfl) ?_ ?_ ?_
  rotate_left 2
  · intro K wx hS hK
    go_simp
    refine (KA.out wx).mono (fun e w2 he => ?_)
    refine ⟨_, he.1, ?_⟩
    exact hK _ (Mem_below hS he.2)
  · simp only [Act.put, List.setIfInBounds_toArray, List.set_cons_succ, List.set_cons_zero]
    rfl
  refine RS.go1g (v := ?_) (a' := ?_) (by kernel_rfl) ?_ ?_ ?_
  rotate_left 2
  · intro K wx hS hK
    go_simp
    exact hK _ hS
  · simp only [Act.put, List.setIfInBounds_toArray, List.set_cons_succ, List.set_cons_zero]
    rfl
  refine RS.go0 (a' := ?_) (by kernel_rfl) ?_ ?_
  rotate_left 1
  · simp only [Act.put, List.setIfInBounds_toArray, List.set_cons_succ, List.set_cons_zero]
    rfl
  refine RS.go0 (a' := ?_) (by kernel_rfl) ?_ ?_
  rotate_left 1
  · simp only [Act.put, List.setIfInBounds_toArray, List.set_cons_succ, List.set_cons_zero]
    rfl
  refine RS.go0 (a' := ?_) (by kernel_rfl) ?_ ?_
  rotate_left 1
  · simp only [Act.put, List.setIfInBounds_toArray, List.set_cons_succ, List.set_cons_zero]
    rfl
  refine RS.go1g (v := ?_) (a' := ?_) (by kernel_rfl) ?_ ?_ ?_
  rotate_left 2
  · intro K wx hS hK
    go_simp
    exact hK _ hS
  · simp only [Act.put, List.setIfInBounds_toArray, List.set_cons_succ, List.set_cons_zero]
    rfl
  refine RS.go1g (v := ?_) (a' := ?_) (by kernel_rfl) ?_ ?_ ?_
  rotate_left 2
  · intro K wx hS hK
    go_simp
    exact hK _ hS
  · simp only [Act.put, List.setIfInBounds_toArray, List.set_cons_succ, List.set_cons_zero]
    rfl
  refine RS.go0 (a' := ?_) (by kernel_rfl) ?_ ?_
  rotate_left 1
  · simp only [Act.put, List.setIfInBounds_toArray, List.set_cons_succ, List.set_cons_zero]
    rfl
  refine RS.go0 (a' := ?_) (by kernel_rfl) ?_ ?_
  rotate_left 1
  · simp only [Act.put, List.setIfInBounds_toArray, List.set_cons_succ, List.set_cons_zero]
    rfl
  refine RS.go0 (a' := ?_) (by kernel_rfl) ?_ ?_
  rotate_left 1
  · simp only [Act.put, List.setIfInBounds_toArray, List.set_cons_succ, List.set_cons_zero]
    rfl
  refine RS.go1g (v := ?_) (a' := ?_) (by kernel_rfl) ?_ ?_ ?_
  rotate_left 2
  · intro K wx hS hK
    go_simp
    exact hK _ hS
  · simp only [Act.put, List.setIfInBounds_toArray, List.set_cons_succ, List.set_cons_zero]
    rfl
  refine RS.go1 (v := ?_) (a' := ?_) rfl ?_ ?_ ?_
  rotate_left 2
  · intro K wx hS hK
    go_simp
    exact hK _ hS
  · simp only [Act.put, List.setIfInBounds_toArray, List.set_cons_succ, List.set_cons_zero]
    rfl
  refine RS.go1 (v := ?_) (a' := ?_) rfl ?_ ?_ ?_
  rotate_left 2
  · intro K wx hS hK
    go_simp
    exact hK _ hS
  · simp only [Act.put, List.setIfInBounds_toArray, List.set_cons_succ, List.set_cons_zero]
    rfl
  refine RS.go1g (v := ?_) (a' := ?_) (by kernel_rfl) ?_ ?_ ?_
  rotate_left 2
  · intro K wx hS hK
    refine ld rfl rfl (hS.v (w.heap.size, P) (by simp)).c ?_
    exact hK _ hS
  · simp only [Act.put, List.setIfInBounds_toArray, List.set_cons_succ, List.set_cons_zero]
    rfl
  refine RS.go1g (v := ?_) (a' := ?_) (by kernel_rfl) ?_ ?_ ?_
  rotate_left 2
  · intro K wx hS hK
    refine ld rfl rfl (hS.v (w.heap.size + 1, Q) (by simp)).c ?_
    exact hK _ hS
  · simp only [Act.put, List.setIfInBounds_toArray, List.set_cons_succ, List.set_cons_zero]
    rfl
  refine RS.go1g (v := ?_) (a' := ?_) (by kernel_rfl) ?_ ?_ ?_
  rotate_left 2
  · intro K wx hS hK
    go_simp
    refine (KA.out wx).mono (fun e w2 he => ?_)
    refine ⟨_, he.1, ?_⟩
    exact hK _ (Mem_below hS he.2)
  · simp only [Act.put, List.setIfInBounds_toArray, List.set_cons_succ, List.set_cons_zero]
    rfl
  refine RS.go1g (v := ?_) (a' := ?_) (by kernel_rfl) ?_ ?_ ?_
  rotate_left 2
  · intro K wx hS hK
    go_simp
    exact hK _ hS
  · simp only [Act.put, List.setIfInBounds_toArray, List.set_cons_succ, List.set_cons_zero]
    rfl
  refine RS.go0 (a' := ?_) (by kernel_rfl) ?_ ?_
  rotate_left 1
  · simp only [Act.put, List.setIfInBounds_toArray, List.set_cons_succ, List.set_cons_zero]
    rfl
  refine RS.go0 (a' := ?_) (by kernel_rfl) ?_ ?_
  rotate_left 1
  · simp only [Act.put, List.setIfInBounds_toArray, List.set_cons_succ, List.set_cons_zero]
    rfl
  refine RS.go0 (a' := ?_) (by kernel_rfl) ?_ ?_
  rotate_left 1
  · simp only [Act.put, List.setIfInBounds_toArray, List.set_cons_succ, List.set_cons_zero]
    rfl
  refine RS.go1g (v := ?_) (a' := ?_) (by kernel_rfl) ?_ ?_ ?_
  rotate_left 2
  · intro K wx hS hK
    go_simp
    exact hK _ hS
  · simp only [Act.put, List.setIfInBounds_toArray, List.set_cons_succ, List.set_cons_zero]
    rfl
  refine RS.go1g (v := ?_) (a' := ?_) (by kernel_rfl) ?_ ?_ ?_
  rotate_left 2
  · intro K wx hS hK
    go_simp
    exact hK _ hS
  · simp only [Act.put, List.setIfInBounds_toArray, List.set_cons_succ, List.set_cons_zero]
    rfl
  refine RS.go0 (a' := ?_) (by kernel_rfl) ?_ ?_
  rotate_left 1
  · simp only [Act.put, List.setIfInBounds_toArray, List.set_cons_succ, List.set_cons_zero]
    rfl
  refine RS.go0 (a' := ?_) (by kernel_rfl) ?_ ?_
  rotate_left 1
  · simp only [Act.put, List.setIfInBounds_toArray, List.set_cons_succ, List.set_cons_zero]
    rfl
  refine RS.go0 (a' := ?_) (by kernel_rfl) ?_ ?_
  rotate_left 1
  · simp only [Act.put, List.setIfInBounds_toArray, List.set_cons_succ, List.set_cons_zero]
    rfl
  refine RS.go0 (a' := ?_) (by kernel_rfl) ?_ ?_
  rotate_left 1
  · simp only [Act.put, List.setIfInBounds_toArray, List.set_cons_succ, List.set_cons_zero]
    rfl
  refine RS.go1g (v := ?_) (a' := ?_) (by kernel_rfl) ?_ ?_ ?_
  rotate_left 2
  · intro K wx hS hK
    go_simp
    exact hK _ hS
  · simp only [Act.put, List.setIfInBounds_toArray, List.set_cons_succ, List.set_cons_zero]
    rfl
  refine RS.go1 (v := ?_) (a' := ?_) rfl ?_ ?_ ?_
  rotate_left 2
  · intro K wx hS hK
    go_simp
    exact hK _ hS
  · simp only [Act.put, List.setIfInBounds_toArray, List.set_cons_succ, List.set_cons_zero]
    rfl
  refine RS.go_end ?_
  intro w9 m9
  clear m4
  go_upto_region 5 with fail
  refine RS.wp_region_one (Mem w [(w.heap.size + 2, R), (w.heap.size + 1, Q), (w.heap.size, P)]) (by kernel_rfl) (by kernel_rfl) (Mem_drew m9) ?_
  dsimp only [List.toList_toArray]
  refine RS.go1 (v := ?_) (a' := ?_) rfl ?_ ?_ ?_
  rotate_left 2
  · intro K wx hS hK
    refine ld rfl rfl (hS.v (w.heap.size, P) (by simp)).c ?_
    exact hK _ hS
  · simp only [Act.put, List.setIfInBounds_toArray, List.set_cons_succ, List.set_cons_zero]
    rfl
  refine RS.go1 (v := ?_) (a' := ?_) rfl ?_ ?_ ?_
  rotate_left 2
  · intro K wx hS hK
    refine ld rfl rfl (hS.v (w.heap.size + 1, Q) (by simp)).c ?_
    exact hK _ hS
  · simp only [Act.put, List.setIfInBounds_toArray, List.set_cons_succ, List.set_cons_zero]
    rfl
  refine RS.go1 (v := ?_) (a' := ?_) rfl ?_ ?_ ?_
  rotate_left 2
  · intro K wx hS hK
    go_simp
    refine (KJ.out wx).mono (fun e w2 he => ?_)
    refine ⟨_, he.1, ?_⟩
    exact hK _ (Mem_below hS he.2)
  · simp only [Act.put, List.setIfInBounds_toArray, List.set_cons_succ, List.set_cons_zero]
    rfl
  refine RS.go1 (v := ?_) (a' := ?_) rfl ?_ ?_ ?_
  rotate_left 2
  · intro K wx hS hK
    refine ld rfl rfl (hS.v (w.heap.size + 2, R) (by simp)).c ?_
    exact hK _ hS
  · simp only [Act.put, List.setIfInBounds_toArray, List.set_cons_succ, List.set_cons_zero]
    rfl
  refine RS.go1 (v := ?_) (a' := ?_) rfl ?_ ?_ ?_
  rotate_left 2
  · intro K wx hS hK
    go_simp
    refine (KX.out wx).mono (fun e w2 he => ?_)
    refine ⟨_, he.1, ?_⟩
    exact hK _ (Mem_below hS he.2)
  · simp only [Act.put, List.setIfInBounds_toArray, List.set_cons_succ, List.set_cons_zero]
    rfl
  refine RS.go1 (v := ?_) (a' := ?_) rfl ?_ ?_ ?_
  rotate_left 2
  · intro K wx hS hK
    refine ld rfl rfl (hS.v (w.heap.size, P) (by simp)).c ?_
    exact hK _ hS
  · simp only [Act.put, List.setIfInBounds_toArray, List.set_cons_succ, List.set_cons_zero]
    rfl
  refine RS.go1 (v := ?_) (a' := ?_) rfl ?_ ?_ ?_
  rotate_left 2
  · intro K wx hS hK
    refine ld rfl rfl (hS.v (w.heap.size + 2, R) (by simp)).c ?_
    exact hK _ hS
  · simp only [Act.put, List.setIfInBounds_toArray, List.set_cons_succ, List.set_cons_zero]
    rfl
  refine RS.go1 (v := ?_) (a' := ?_) rfl ?_ ?_ ?_
  rotate_left 2
  · intro K wx hS hK
    go_simp
    refine (KD.out wx).mono (fun e w2 he => ?_)
    refine ⟨_, he.1, ?_⟩
    exact hK _ (Mem_below hS he.2)
  · simp only [Act.put, List.setIfInBounds_toArray, List.set_cons_succ, List.set_cons_zero]
    rfl
  refine RS.go1 (v := ?_) (a' := ?_) rfl ?_ ?_ ?_
  rotate_left 2
  · intro K wx hS hK
    go_simp
    exact hK _ hS
  · simp only [Act.put, List.setIfInBounds_toArray, List.set_cons_succ, List.set_cons_zero]
    rfl
  refine RS.go1g (v := ?_) (a' := ?_) (by kernel_rfl) ?_ ?_ ?_
  rotate_left 2
  · intro K wx hS hK
    refine ld rfl rfl (hS.v (w.heap.size + 1, Q) (by simp)).c ?_
    exact hK _ hS
  · simp only [Act.put, List.setIfInBounds_toArray, List.set_cons_succ, List.set_cons_zero]
    rfl
  refine RS.go1g (v := ?_) (a' := ?_) (by kernel_rfl) ?_ ?_ ?_
  rotate_left 2
  · intro K wx hS hK
    refine ld rfl rfl (hS.v (w.heap.size + 2, R) (by simp)).c ?_
    exact hK _ hS
  · simp only [Act.put, List.setIfInBounds_toArray, List.set_cons_succ, List.set_cons_zero]
    rfl
  refine RS.go1g (v := ?_) (a' := ?_) (by kernel_rfl) ?_ ?_ ?_
  rotate_left 2
  · intro K wx hS hK
    go_simp
    refine (KC.out wx).mono (fun e w2 he => ?_)
    refine ⟨_, he.1, ?_⟩
    exact hK _ (Mem_below hS he.2)
  · simp only [Act.put, List.setIfInBounds_toArray, List.set_cons_succ, List.set_cons_zero]
    rfl
  refine RS.go1 (v := ?_) (a' := ?_) rfl ?_ ?_ ?_
  rotate_left 2
  · intro K wx hS hK
    go_simp
    exact hK _ hS
  · simp only [Act.put, List.setIfInBounds_toArray, List.set_cons_succ, List.set_cons_zero]
    rfl
  refine RS.go1 (v := ?_) (a' := ?_) rfl ?_ ?_ ?_
  rotate_left 2
  · intro K wx hS hK
    go_simp
    exact hK _ hS
  · simp only [Act.put, List.setIfInBounds_toArray, List.set_cons_succ, List.set_cons_zero]
    rfl
  refine RS.go1 (v := ?_) (a' := ?_) rfl ?_ ?_ ?_
  rotate_left 2
  · intro K wx hS hK
    go_simp
    exact hK _ hS
  · simp only [Act.put, List.setIfInBounds_toArray, List.set_cons_succ, List.set_cons_zero]
    rfl
  refine RS.go_end ?_
  intro w8 m8
  have b8 := m8.b
  clear m8 m9
  go_wp2_with fail
  go_ret
  exact ⟨by simp, b8⟩
set_option maxHeartbeats 2000000 in
set_option maxRecDepth 100000 in
theorem law_within_c (P Q R : Nat → Bool) (w : World) (ha : wi P Q = true) (hb : wi Q P = false) (hc : wi Q R = false) (hd : wi P R = false) :
    Calls Try.prog 6 #[Hv (FB P), Hv (FB Q), Hv (FB R)] w fun e w' => e = .returned (.bool true) ∧ Below w.heap.size w w' := by
  have KP : Hid (∀ w : World, Calls Try.prog 11 #[Hv (FB P), Hv (FB P)] w fun e w' => e = .returned (.bool true) ∧ Below w.heap.size w w') := fun w => by have := within_any P P w; rwa [wi_self] at this
  have KA : Hid (∀ w : World, Calls Try.prog 11 #[Hv (FB P), Hv (FB Q)] w fun e w' => e = .returned (.bool true) ∧ Below w.heap.size w w') := fun w => by have := within_any P Q w; rwa [ha] at this
  have KB : Hid (∀ w : World, Calls Try.prog 11 #[Hv (FB Q), Hv (FB P)] w fun e w' => e = .returned (.bool false) ∧ Below w.heap.size w w') := fun w => by have := within_any Q P w; rwa [hb] at this
  have KC : Hid (∀ w : World, Calls Try.prog 11 #[Hv (FB Q), Hv (FB R)] w fun e w' => e = .returned (.bool false) ∧ Below w.heap.size w w') := fun w => by have := within_any Q R w; rwa [hc] at this
  have KD : Hid (∀ w : World, Calls Try.prog 11 #[Hv (FB P), Hv (FB R)] w fun e w' => e = .returned (.bool false) ∧ Below w.heap.size w w') := fun w => by have := within_any P R w; rwa [hd] at this
  have KJ : Hid (∀ w : World, Calls Try.prog 9 #[Hv (FB P), Hv (FB Q)] w fun e w' => e = .returned (Hv (FB (jn P Q))) ∧ Below w.heap.size w w') := fun w => join_any P Q w
  have KX : Hid (∀ w : World, Calls Try.prog 11 #[Hv (FB (jn P Q)), Hv (FB R)] w fun e w' => e = .returned (.bool false) ∧ Below w.heap.size w w') := fun w => by have := within_any (jn P Q) R w; rw [wi_jn, hc, hd] at this; exact this
  clear ha hc hd hb
  go_enter Try.func6, Try.ntmps6
  go_upto_region 1 with fail
  dsimp only [Hv]
  have m0 := Mem_nil w
  have m1 := Mem_box m0 (P) 24
  have z1 : (w.alloc (.cells (h32 (FB (P))).toArray 24)).heap.size = w.heap.size + 1 := by simp
  generalize w.alloc (.cells (h32 (FB (P))).toArray 24) = W1 at m1 z1 ⊢
  have m2 := Mem_box m1 (Q) 24
  have z2 : (W1.alloc (.cells (h32 (FB (Q))).toArray 24)).heap.size = w.heap.size + 2 := by simp [z1]
  rw [z1] at m2
  generalize W1.alloc (.cells (h32 (FB (Q))).toArray 24) = W2 at m2 z2 ⊢
  have m3 := Mem_box m2 (R) 24
  have z3 : (W2.alloc (.cells (h32 (FB (R))).toArray 24)).heap.size = w.heap.size + 3 := by simp [z2]
  rw [z2] at m3
  generalize W2.alloc (.cells (h32 (FB (R))).toArray 24) = W3 at m3 z3 ⊢
  generalize (h32 (FB (P))).toArray = c0
  generalize (h32 (FB (Q))).toArray = c1
  generalize (h32 (FB (R))).toArray = c2
  clear m1 z1 m2 z2 m0 z3
  go_wp2_with fail
  refine (alive10_any _).mono ?_
  rintro e w1 ⟨rfl, hb1⟩
  have m4 := Mem_below m3 hb1
  clear m3 hb1
  go_upto_region 3 with fail
  refine RS.wp_region_flat (Mem w [(w.heap.size + 2, R), (w.heap.size + 1, Q), (w.heap.size, P)]) 35 (by kernel_rfl) (m4) ?_
  simp only [List.take_succ_cons, List.take_zero, List.drop_succ_cons, List.drop_zero]
  refine RS.go1 (v := ?_) (a' := ?_) rfl ?_ ?_ ?_
  rotate_left 2
  · intro K wx hS hK
    refine ld rfl rfl (hS.v (w.heap.size, P) (by simp)).c ?_
    exact hK _ hS
  · simp only [Act.put, List.setIfInBounds_toArray, List.set_cons_succ, List.set_cons_zero]
    rfl
  refine RS.go1 (v := ?_) (a' := ?_) rfl ?_ ?_ ?_
  rotate_left 2
  · intro K wx hS hK
    refine ld rfl rfl (hS.v (w.heap.size, P) (by simp)).c ?_
    exact hK _ hS
  · simp only [Act.put, List.setIfInBounds_toArray, List.set_cons_succ, List.set_cons_zero]
    rfl
  refine RS.go1 (v := ?_) (a' := ?_) rfl ?_ ?_ ?_
  rotate_left 2
  · intro K wx hS hK
    go_simp
    refine (KP.out wx).mono (fun e w2 he => ?_)
    refine ⟨_, he.1, ?_⟩
    exact hK _ (Mem_below hS he.2)
  · simp only [Act.put, List.setIfInBounds_toArray, List.set_cons_succ, List.set_cons_zero]
    rfl
  refine RS.go1 (v := ?_) (a' := ?_) rfl ?_ ?_ ?_
  rotate_left 2
  · intro K wx hS hK
    go_simp
    exact hK _ hS
  · simp only [Act.put, List.setIfInBounds_toArray, List.set_cons_succ, List.set_cons_zero]
    rfl
  refine RS.go1 (v := ?_) (a' := ?_) rfl ?_ ?_ ?_
  rotate_left 2
  · intro K wx hS hK
    go_simp
    exact hK _ hS
  · simp only [Act.put, List.setIfInBounds_toArray, List.set_cons_succ, List.set_cons_zero]
    rfl
  refine RS.go1g (v := ?_) (a' := ?_) (by kernel_rfl) ?_ ?_ ?_
  rotate_left 2
  · intro K wx hS hK
    refine ld rfl rfl (hS.v (w.heap.size, P) (by simp)).c ?_
    exact hK _ hS
  · simp only [Act.put, List.setIfInBounds_toArray, List.set_cons_succ, List.set_cons_zero]
    rfl
  refine RS.go1g (v := ?_) (a' := ?_) (by kernel_rfl) ?_ ?_ ?_
  rotate_left 2
  · intro K wx hS hK
    refine ld rfl rfl (hS.v (w.heap.size + 1, Q) (by simp)).c ?_
    exact hK _ hS
  · simp only [Act.put, List.setIfInBounds_toArray, List.set_cons_succ, List.set_cons_zero]
    rfl
  refine RS.go1g (v := ?_) (a' := ?_) (by kernel_rfl) ?_ ?_ ?_
  rotate_left 2
  · intro K wx hS hK
    go_simp
    refine (KA.out wx).mono (fun e w2 he => ?_)
    refine ⟨_, he.1, ?_⟩
    exact hK _ (Mem_below hS he.2)
  · simp only [Act.put, List.setIfInBounds_toArray, List.set_cons_succ, List.set_cons_zero]
    rfl
  refine RS.go1g (v := ?_) (a' := ?_) (by kernel_rfl) ?_ ?_ ?_
  rotate_left 2
  · intro K wx hS hK
    go_simp
    exact hK _ hS
  · simp only [Act.put, List.setIfInBounds_toArray, List.set_cons_succ, List.set_cons_zero]
    rfl
  refine RS.go1g (v := ?_) (a' := ?_) (by kernel_rfl) ?_ ?_ ?_
  rotate_left 2
  · intro K wx hS hK
    refine ld rfl rfl (hS.v (w.heap.size + 1, Q) (by simp)).c ?_
    exact hK _ hS
  · simp only [Act.put, List.setIfInBounds_toArray, List.set_cons_succ, List.set_cons_zero]
    rfl
  refine RS.go1g (v := ?_) (a' := ?_) (by kernel_rfl) ?_ ?_ ?_
  rotate_left 2
  · intro K wx hS hK
    refine ld rfl rfl (hS.v (w.heap.size, P) (by simp)).c ?_
    exact hK _ hS
  · simp only [Act.put, List.setIfInBounds_toArray, List.set_cons_succ, List.set_cons_zero]
    rfl
  refine RS.go1g (v := ?_) (a' := ?_) (by kernel_rfl) ?_ ?_ ?_
  rotate_left 2
  · intro K wx hS hK
    go_simp
    refine (KB.out wx).mono (fun e w2 he => ?_)
    refine ⟨_, he.1, ?_⟩
    exact hK _ (Mem_below hS he.2)
  · simp only [Act.put, List.setIfInBounds_toArray, List.set_cons_succ, List.set_cons_zero]
    rfl
  refine RS.go1g (v := ?_) (a' := ?_) (by kernel_rfl) ?_ ?_ ?_
  rotate_left 2
  · intro K wx hS hK
    go_simp
    exact hK _ hS
  · simp only [Act.put, List.setIfInBounds_toArray, List.set_cons_succ, List.set_cons_zero]
    rfl
  refine RS.go1g (v := ?_) (a' := ?_) (by kernel_rfl) ?_ ?_ ?_
  rotate_left 2
  · intro K wx hS hK
    go_simp
    exact hK _ hS
  · simp only [Act.put, List.setIfInBounds_toArray, List.set_cons_succ, List.set_cons_zero]
    rfl
  refine RS.go0 (a' := ?_) (by kernel_rfl) ?_ ?_
  rotate_left 1
  · simp only [Act.put, List.setIfInBounds_toArray, List.set_cons_succ, List.set_cons_zero]
    rfl
  refine RS.go0 (a' := ?_) (by kernel_rfl) ?_ ?_
  rotate_left 1
  · simp only [Act.put, List.setIfInBounds_toArray, List.set_cons_succ, List.set_cons_zero]
    rfl
  refine RS.go0 (a' := ?_) (by kernel_rfl) ?_ ?_
  rotate_left 1
  · simp only [Act.put, List.setIfInBounds_toArray, List.set_cons_succ, List.set_cons_zero]
    rfl
  refine RS.go1g (v := ?_) (a' := ?_) (by kernel_rfl) ?_ ?_ ?_
  rotate_left 2
  · intro K wx hS hK
    go_simp
    exact hK _ hS
  · simp only [Act.put, List.setIfInBounds_toArray, List.set_cons_succ, List.set_cons_zero]
    rfl
  refine RS.go1 (v := ?_) (a' := ?_) rfl ?_ ?_ ?_
  rotate_left 2
  · intro K wx hS hK
    go_simp
    exact hK _ hS
  · simp only [Act.put, List.setIfInBounds_toArray, List.set_cons_succ, List.set_cons_zero]
    rfl
  refine RS.go1 (v := ?_) (a' := ?_) rfl ?_ ?_ ?_
  rotate_left 2
  · intro K wx hS hK
    go_simp
    exact hK _ hS
  · simp only [Act.put, List.setIfInBounds_toArray, List.set_cons_succ, List.set_cons_zero]
    rfl
  refine RS.go1g (v := ?_) (a' := ?_) (by kernel_rfl) ?_ ?_ ?_
  rotate_left 2
  · intro K wx hS hK
    refine ld rfl rfl (hS.v (w.heap.size, P) (by simp)).c ?_
    exact hK _ hS
  · simp only [Act.put, List.setIfInBounds_toArray, List.set_cons_succ, List.set_cons_zero]
    rfl
  refine RS.go1g (v := ?_) (a' := ?_) (by kernel_rfl) ?_ ?_ ?_
  rotate_left 2
  · intro K wx hS hK
    refine ld rfl rfl (hS.v (w.heap.size + 1, Q) (by simp)).c ?_
    exact hK _ hS
  · simp only [Act.put, List.setIfInBounds_toArray, List.set_cons_succ, List.set_cons_zero]
    rfl
  refine RS.go1g (v := ?_) (a' := ?_) (by kernel_rfl) ?_ ?_ ?_
  rotate_left 2
  · intro K wx hS hK
    go_simp
    refine (KA.out wx).mono (fun e w2 he => ?_)
    refine ⟨_, he.1, ?_⟩
    exact hK _ (Mem_below hS he.2)
  · simp only [Act.put, List.setIfInBounds_toArray, List.set_cons_succ, List.set_cons_zero]
    rfl
  refine RS.go1g (v := ?_) (a' := ?_) (by kernel_rfl) ?_ ?_ ?_
  rotate_left 2
  · intro K wx hS hK
    go_simp
    exact hK _ hS
  · simp only [Act.put, List.setIfInBounds_toArray, List.set_cons_succ, List.set_cons_zero]
    rfl
  refine RS.go1g (v := ?_) (a' := ?_) (by kernel_rfl) ?_ ?_ ?_
  rotate_left 2
  · intro K wx hS hK
    refine ld rfl rfl (hS.v (w.heap.size + 1, Q) (by simp)).c ?_
    exact hK _ hS
  · simp only [Act.put, List.setIfInBounds_toArray, List.set_cons_succ, List.set_cons_zero]
    rfl
  refine RS.go1g (v := ?_) (a' := ?_) (by kernel_rfl) ?_ ?_ ?_
  rotate_left 2
  · intro K wx hS hK
    refine ld rfl rfl (hS.v (w.heap.size + 2, R) (by simp)).c ?_
    exact hK _ hS
  · simp only [Act.put, List.setIfInBounds_toArray, List.set_cons_succ, List.set_cons_zero]
    rfl
  refine RS.go1g (v := ?_) (a' := ?_) (by kernel_rfl) ?_ ?_ ?_
  rotate_left 2
  · intro K wx hS hK
    go_simp
    refine (KC.out wx).mono (fun e w2 he => ?_)
    refine ⟨_, he.1, ?_⟩
    exact hK _ (Mem_below hS he.2)
  · simp only [Act.put, List.setIfInBounds_toArray, List.set_cons_succ, List.set_cons_zero]
    rfl
  refine RS.go1g (v := ?_) (a' := ?_) (by kernel_rfl) ?_ ?_ ?_
  rotate_left 2
  · intro K wx hS hK
    go_simp
    exact hK _ hS
  · simp only [Act.put, List.setIfInBounds_toArray, List.set_cons_succ, List.set_cons_zero]
    rfl
  refine RS.go1g (v := ?_) (a' := ?_) (by kernel_rfl) ?_ ?_ ?_
  rotate_left 2
  · intro K wx hS hK
    go_simp
    exact hK _ hS
  · simp only [Act.put, List.setIfInBounds_toArray, List.set_cons_succ, List.set_cons_zero]
    rfl
  refine RS.go0 (a' := ?_) (by kernel_rfl) ?_ ?_
  rotate_left 1
  · simp only [Act.put, List.setIfInBounds_toArray, List.set_cons_succ, List.set_cons_zero]
    rfl
  refine RS.go0 (a' := ?_) (by kernel_rfl) ?_ ?_
  rotate_left 1
  · simp only [Act.put, List.setIfInBounds_toArray, List.set_cons_succ, List.set_cons_zero]
    rfl
  refine RS.go0 (a' := ?_) (by kernel_rfl) ?_ ?_
  rotate_left 1
  · simp only [Act.put, List.setIfInBounds_toArray, List.set_cons_succ, List.set_cons_zero]
    rfl
  refine RS.go0 (a' := ?_) (by kernel_rfl) ?_ ?_
  rotate_left 1
  · simp only [Act.put, List.setIfInBounds_toArray, List.set_cons_succ, List.set_cons_zero]
    rfl
  refine RS.go1g (v := ?_) (a' := ?_) (by kernel_rfl) ?_ ?_ ?_
  rotate_left 2
  · intro K wx hS hK
    go_simp
    exact hK _ hS
  · simp only [Act.put, List.setIfInBounds_toArray, List.set_cons_succ, List.set_cons_zero]
    rfl
  refine RS.go1 (v := ?_) (a' := ?_) rfl ?_ ?_ ?_
  rotate_left 2
  · intro K wx hS hK
    go_simp
    exact hK _ hS
  · simp only [Act.put, List.setIfInBounds_toArray, List.set_cons_succ, List.set_cons_zero]
    rfl
  refine RS.go_end ?_
  intro w9 m9
  clear m4
  go_upto_region 5 with fail
  refine RS.wp_region_one (Mem w [(w.heap.size + 2, R), (w.heap.size + 1, Q), (w.heap.size, P)]) (by kernel_rfl) (by kernel_rfl) (Mem_drew m9) ?_
  dsimp only [List.toList_toArray]
  refine RS.go1 (v := ?_) (a' := ?_) rfl ?_ ?_ ?_
  rotate_left 2
  · intro K wx hS hK
    refine ld rfl rfl (hS.v (w.heap.size, P) (by simp)).c ?_
    exact hK _ hS
  · simp only [Act.put, List.setIfInBounds_toArray, List.set_cons_succ, List.set_cons_zero]
    rfl
  refine RS.go1 (v := ?_) (a' := ?_) rfl ?_ ?_ ?_
  rotate_left 2
  · intro K wx hS hK
    refine ld rfl rfl (hS.v (w.heap.size + 1, Q) (by simp)).c ?_
    exact hK _ hS
  · simp only [Act.put, List.setIfInBounds_toArray, List.set_cons_succ, List.set_cons_zero]
    rfl
  refine RS.go1 (v := ?_) (a' := ?_) rfl ?_ ?_ ?_
  rotate_left 2
  · intro K wx hS hK
    go_simp
    refine (KJ.out wx).mono (fun e w2 he => ?_)
    refine ⟨_, he.1, ?_⟩
    exact hK _ (Mem_below hS he.2)
  · simp only [Act.put, List.setIfInBounds_toArray, List.set_cons_succ, List.set_cons_zero]
    rfl
  refine RS.go1 (v := ?_) (a' := ?_) rfl ?_ ?_ ?_
  rotate_left 2
  · intro K wx hS hK
    refine ld rfl rfl (hS.v (w.heap.size + 2, R) (by simp)).c ?_
    exact hK _ hS
  · simp only [Act.put, List.setIfInBounds_toArray, List.set_cons_succ, List.set_cons_zero]
    rfl
  refine RS.go1 (v := ?_) (a' := ?_) rfl ?_ ?_ ?_
  rotate_left 2
  · intro K wx hS hK
    go_simp
    refine (KX.out wx).mono (fun e w2 he => ?_)
    refine ⟨_, he.1, ?_⟩
    exact hK _ (Mem_below hS he.2)
  · simp only [Act.put, List.setIfInBounds_toArray, List.set_cons_succ, List.set_cons_zero]
    rfl
  refine RS.go1 (v := ?_) (a' := ?_) rfl ?_ ?_ ?_
  rotate_left 2
  · intro K wx hS hK
    refine ld rfl rfl (hS.v (w.heap.size, P) (by simp)).c ?_
    exact hK _ hS
  · simp only [Act.put, List.setIfInBounds_toArray, List.set_cons_succ, List.set_cons_zero]
    rfl
  refine RS.go1 (v := ?_) (a' := ?_) rfl ?_ ?_ ?_
  rotate_left 2
  · intro K wx hS hK
    refine ld rfl rfl (hS.v (w.heap.size + 2, R) (by simp)).c ?_
    exact hK _ hS
  · simp only [Act.put, List.setIfInBounds_toArray, List.set_cons_succ, List.set_cons_zero]
    rfl
  refine RS.go1 (v := ?_) (a' := ?_) rfl ?_ ?_ ?_
  rotate_left 2
  · intro K wx hS hK
    go_simp
    refine (KD.out wx).mono (fun e w2 he => ?_)
    refine ⟨_, he.1, ?_⟩
    exact hK _ (Mem_below hS he.2)
  · simp only [Act.put, List.setIfInBounds_toArray, List.set_cons_succ, List.set_cons_zero]
    rfl
  refine RS.go1 (v := ?_) (a' := ?_) rfl ?_ ?_ ?_
  rotate_left 2
  · intro K wx hS hK
    go_simp
    exact hK _ hS
  · simp only [Act.put, List.setIfInBounds_toArray, List.set_cons_succ, List.set_cons_zero]
    rfl
  refine RS.go0 (a' := ?_) (by kernel_rfl) ?_ ?_
  rotate_left 1
  · simp only [Act.put, List.setIfInBounds_toArray, List.set_cons_succ, List.set_cons_zero]
    rfl
  refine RS.go0 (a' := ?_) (by kernel_rfl) ?_ ?_
  rotate_left 1
  · simp only [Act.put, List.setIfInBounds_toArray, List.set_cons_succ, List.set_cons_zero]
    rfl
  refine RS.go0 (a' := ?_) (by kernel_rfl) ?_ ?_
  rotate_left 1
  · simp only [Act.put, List.setIfInBounds_toArray, List.set_cons_succ, List.set_cons_zero]
    rfl
  refine RS.go1 (v := ?_) (a' := ?_) rfl ?_ ?_ ?_
  rotate_left 2
  · intro K wx hS hK
    go_simp
    exact hK _ hS
  · simp only [Act.put, List.setIfInBounds_toArray, List.set_cons_succ, List.set_cons_zero]
    rfl
  refine RS.go1 (v := ?_) (a' := ?_) rfl ?_ ?_ ?_
  rotate_left 2
  · intro K wx hS hK
    go_simp
    exact hK _ hS
  · simp only [Act.put, List.setIfInBounds_toArray, List.set_cons_succ, List.set_cons_zero]
    rfl
  refine RS.go1 (v := ?_) (a' := ?_) rfl ?_ ?_ ?_
  rotate_left 2
  · intro K wx hS hK
    go_simp
    exact hK _ hS
  · simp only [Act.put, List.setIfInBounds_toArray, List.set_cons_succ, List.set_cons_zero]
    rfl
  refine RS.go_end ?_
  intro w8 m8
  have b8 := m8.b
  clear m8 m9
  go_wp2_with fail
  go_ret
  exact ⟨by simp, b8⟩
set_option maxHeartbeats 2000000 in
set_option maxRecDepth 100000 in
theorem law_within_d (P Q R : Nat → Bool) (w : World) (ha : wi P Q = true) (hb : wi Q P = false) (hc : wi Q R = false) (hd : wi P R = true) :
    Calls Try.prog 6 #[Hv (FB P), Hv (FB Q), Hv (FB R)] w fun e w' => e = .returned (.bool true) ∧ Below w.heap.size w w' := by
  have KP : Hid (∀ w : World, Calls Try.prog 11 #[Hv (FB P), Hv (FB P)] w fun e w' => e = .returned (.bool true) ∧ Below w.heap.size w w') := fun w => by have := within_any P P w; rwa [wi_self] at this
  have KA : Hid (∀ w : World, Calls Try.prog 11 #[Hv (FB P), Hv (FB Q)] w fun e w' => e = .returned (.bool true) ∧ Below w.heap.size w w') := fun w => by have := within_any P Q w; rwa [ha] at this
  have KB : Hid (∀ w : World, Calls Try.prog 11 #[Hv (FB Q), Hv (FB P)] w fun e w' => e = .returned (.bool false) ∧ Below w.heap.size w w') := fun w => by have := within_any Q P w; rwa [hb] at this
  have KC : Hid (∀ w : World, Calls Try.prog 11 #[Hv (FB Q), Hv (FB R)] w fun e w' => e = .returned (.bool false) ∧ Below w.heap.size w w') := fun w => by have := within_any Q R w; rwa [hc] at this
  have KD : Hid (∀ w : World, Calls Try.prog 11 #[Hv (FB P), Hv (FB R)] w fun e w' => e = .returned (.bool true) ∧ Below w.heap.size w w') := fun w => by have := within_any P R w; rwa [hd] at this
  have KJ : Hid (∀ w : World, Calls Try.prog 9 #[Hv (FB P), Hv (FB Q)] w fun e w' => e = .returned (Hv (FB (jn P Q))) ∧ Below w.heap.size w w') := fun w => join_any P Q w
  have KX : Hid (∀ w : World, Calls Try.prog 11 #[Hv (FB (jn P Q)), Hv (FB R)] w fun e w' => e = .returned (.bool false) ∧ Below w.heap.size w w') := fun w => by have := within_any (jn P Q) R w; rw [wi_jn, hc, hd] at this; exact this
  clear ha hc hd hb
  go_enter Try.func6, Try.ntmps6
  go_upto_region 1 with fail
  dsimp only [Hv]
  have m0 := Mem_nil w
  have m1 := Mem_box m0 (P) 24
  have z1 : (w.alloc (.cells (h32 (FB (P))).toArray 24)).heap.size = w.heap.size + 1 := by simp
  generalize w.alloc (.cells (h32 (FB (P))).toArray 24) = W1 at m1 z1 ⊢
  have m2 := Mem_box m1 (Q) 24
  have z2 : (W1.alloc (.cells (h32 (FB (Q))).toArray 24)).heap.size = w.heap.size + 2 := by simp [z1]
  rw [z1] at m2
  generalize W1.alloc (.cells (h32 (FB (Q))).toArray 24) = W2 at m2 z2 ⊢
  have m3 := Mem_box m2 (R) 24
  have z3 : (W2.alloc (.cells (h32 (FB (R))).toArray 24)).heap.size = w.heap.size + 3 := by simp [z2]
  rw [z2] at m3
  generalize W2.alloc (.cells (h32 (FB (R))).toArray 24) = W3 at m3 z3 ⊢
  generalize (h32 (FB (P))).toArray = c0
  generalize (h32 (FB (Q))).toArray = c1
  generalize (h32 (FB (R))).toArray = c2
  clear m1 z1 m2 z2 m0 z3
  go_wp2_with fail
  refine (alive10_any _).mono ?_
  rintro e w1 ⟨rfl, hb1⟩
  have m4 := Mem_below m3 hb1
  clear m3 hb1
  go_upto_region 3 with fail
  refine RS.wp_region_flat (Mem w [(w.heap.size + 2, R), (w.heap.size + 1, Q), (w.heap.size, P)]) 35 (by kernel_rfl) (m4) ?_
  simp only [List.take_succ_cons, List.take_zero, List.drop_succ_cons, List.drop_zero]
  refine RS.go1 (v := ?_) (a' := ?_) rfl ?_ ?_ ?_
  rotate_left 2
  · intro K wx hS hK
    refine ld rfl rfl (hS.v (w.heap.size, P) (by simp)).c ?_
    exact hK _ hS
  · simp only [Act.put, List.setIfInBounds_toArray, List.set_cons_succ, List.set_cons_zero]
    rfl
  refine RS.go1 (v := ?_) (a' := ?_) rfl ?_ ?_ ?_
  rotate_left 2
  · intro K wx hS hK
    refine ld rfl rfl (hS.v (w.heap.size, P) (by simp)).c ?_
    exact hK _ hS
  · simp only [Act.put, List.setIfInBounds_toArray, List.set_cons_succ, List.set_cons_zero]
    rfl
  refine RS.go1 (v := ?_) (a' := ?_) rfl ?_ ?_ ?_
  rotate_left 2
  · intro K wx hS hK
    go_simp
    refine (KP.out wx).mono (fun e w2 he => ?_)
    refine ⟨_, he.1, ?_⟩
    exact hK _ (Mem_below hS he.2)
  · simp only [Act.put, List.setIfInBounds_toArray, List.set_cons_succ, List.set_cons_zero]
    rfl
  refine RS.go1 (v := ?_) (a' := ?_) rfl ?_ ?_ ?_
  rotate_left 2
  · intro K wx hS hK
    go_simp
    exact hK _ hS
  · simp only [Act.put, List.setIfInBounds_toArray, List.set_cons_succ, List.set_cons_zero]
    rfl
  refine RS.go1 (v := ?_) (a' := ?_) rfl ?_ ?_ ?_
  rotate_left 2
  · intro K wx hS hK
    go_simp
    exact hK _ hS
  · simp only [Act.put, List.setIfInBounds_toArray, List.set_cons_succ, List.set_cons_zero]
    rfl
  refine RS.go1g (v := ?_) (a' := ?_) (by kernel_rfl) ?_ ?_ ?_
  rotate_left 2
  · intro K wx hS hK
    refine ld rfl rfl (hS.v (w.heap.size, P) (by simp)).c ?_
    exact hK _ hS
  · simp only [Act.put, List.setIfInBounds_toArray, List.set_cons_succ, List.set_cons_zero]
    rfl
  refine RS.go1g (v := ?_) (a' := ?_) (by kernel_rfl) ?_ ?_ ?_
  rotate_left 2
  · intro K wx hS hK
    refine ld rfl rfl (hS.v (w.heap.size + 1, Q) (by simp)).c ?_
    exact hK _ hS
  · simp only [Act.put, List.setIfInBounds_toArray, List.set_cons_succ, List.set_cons_zero]
    rfl
  refine RS.go1g (v := ?_) (a' := ?_) (by kernel_rfl) ?_ ?_ ?_
  rotate_left 2
  · intro K wx hS hK
    go_simp
    refine (KA.out wx).mono (fun e w2 he => ?_)
    refine ⟨_, he.1, ?_⟩
    exact hK _ (Mem_below hS he.2)
  · simp only [Act.put, List.setIfInBounds_toArray, List.set_cons_succ, List.set_cons_zero]
    rfl
  refine RS.go1g (v := ?_) (a' := ?_) (by kernel_rfl) ?_ ?_ ?_
  rotate_left 2
  · intro K wx hS hK
    go_simp
    exact hK _ hS
  · simp only [Act.put, List.setIfInBounds_toArray, List.set_cons_succ, List.set_cons_zero]
    rfl
  refine RS.go1g (v := ?_) (a' := ?_) (by kernel_rfl) ?_ ?_ ?_
  rotate_left 2
  · intro K wx hS hK
    refine ld rfl rfl (hS.v (w.heap.size + 1, Q) (by simp)).c ?_
    exact hK _ hS
  · simp only [Act.put, List.setIfInBounds_toArray, List.set_cons_succ, List.set_cons_zero]
    rfl
  refine RS.go1g (v := ?_) (a' := ?_) (by kernel_rfl) ?_ ?_ ?_
  rotate_left 2
  · intro K wx hS hK
    refine ld rfl rfl (hS.v (w.heap.size, P) (by simp)).c ?_
    exact hK _ hS
  · simp only [Act.put, List.setIfInBounds_toArray, List.set_cons_succ, List.set_cons_zero]
    rfl
  refine RS.go1g (v := ?_) (a' := ?_) (by kernel_rfl) ?_ ?_ ?_
  rotate_left 2
  · intro K wx hS hK
    go_simp
    refine (KB.out wx).mono (fun e w2 he => ?_)
    refine ⟨_, he.1, ?_⟩
    exact hK _ (Mem_below hS he.2)
  · simp only [Act.put, List.setIfInBounds_toArray, List.set_cons_succ, List.set_cons_zero]
    rfl
  refine RS.go1g (v := ?_) (a' := ?_) (by kernel_rfl) ?_ ?_ ?_
  rotate_left 2
  · intro K wx hS hK
    go_simp
    exact hK _ hS
  · simp only [Act.put, List.setIfInBounds_toArray, List.set_cons_succ, List.set_cons_zero]
    rfl
  refine RS.go1g (v := ?_) (a' := ?_) (by kernel_rfl) ?_ ?_ ?_
  rotate_left 2
  · intro K wx hS hK
    go_simp
    exact hK _ hS
  · simp only [Act.put, List.setIfInBounds_toArray, List.set_cons_succ, List.set_cons_zero]
    rfl
  refine RS.go0 (a' := ?_) (by kernel_rfl) ?_ ?_
  rotate_left 1
  · simp only [Act.put, List.setIfInBounds_toArray, List.set_cons_succ, List.set_cons_zero]
    rfl
  refine RS.go0 (a' := ?_) (by kernel_rfl) ?_ ?_
  rotate_left 1
  · simp only [Act.put, List.setIfInBounds_toArray, List.set_cons_succ, List.set_cons_zero]
    rfl
  refine RS.go0 (a' := ?_) (by kernel_rfl) ?_ ?_
  rotate_left 1
  · simp only [Act.put, List.setIfInBounds_toArray, List.set_cons_succ, List.set_cons_zero]
    rfl
  refine RS.go1g (v := ?_) (a' := ?_) (by kernel_rfl) ?_ ?_ ?_
  rotate_left 2
  · intro K wx hS hK
    go_simp
    exact hK _ hS
  · simp only [Act.put, List.setIfInBounds_toArray, List.set_cons_succ, List.set_cons_zero]
    rfl
  refine RS.go1 (v := ?_) (a' := ?_) rfl ?_ ?_ ?_
  rotate_left 2
  · intro K wx hS hK
    go_simp
    exact hK _ hS
  · simp only [Act.put, List.setIfInBounds_toArray, List.set_cons_succ, List.set_cons_zero]
    rfl
  refine RS.go1 (v := ?_) (a' := ?_) rfl ?_ ?_ ?_
  rotate_left 2
  · intro K wx hS hK
    go_simp
    exact hK _ hS
  · simp only [Act.put, List.setIfInBounds_toArray, List.set_cons_succ, List.set_cons_zero]
    rfl
  refine RS.go1g (v := ?_) (a' := ?_) (by kernel_rfl) ?_ ?_ ?_
  rotate_left 2
  · intro K wx hS hK
    refine ld rfl rfl (hS.v (w.heap.size, P) (by simp)).c ?_
    exact hK _ hS
  · simp only [Act.put, List.setIfInBounds_toArray, List.set_cons_succ, List.set_cons_zero]
    rfl
  refine RS.go1g (v := ?_) (a' := ?_) (by kernel_rfl) ?_ ?_ ?_
  rotate_left 2
  · intro K wx hS hK
    refine ld rfl rfl (hS.v (w.heap.size + 1, Q) (by simp)).c ?_
    exact hK _ hS
  · simp only [Act.put, List.setIfInBounds_toArray, List.set_cons_succ, List.set_cons_zero]
    rfl
  refine RS.go1g (v := ?_) (a' := ?_) (by kernel_rfl) ?_ ?_ ?_
  rotate_left 2
  · intro K wx hS hK
    go_simp
    refine (KA.out wx).mono (fun e w2 he => ?_)
    refine ⟨_, he.1, ?_⟩
    exact hK _ (Mem_below hS he.2)
  · simp only [Act.put, List.setIfInBounds_toArray, List.set_cons_succ, List.set_cons_zero]
    rfl
  refine RS.go1g (v := ?_) (a' := ?_) (by kernel_rfl) ?_ ?_ ?_
  rotate_left 2
  · intro K wx hS hK
    go_simp
    exact hK _ hS
  · simp only [Act.put, List.setIfInBounds_toArray, List.set_cons_succ, List.set_cons_zero]
    rfl
  refine RS.go1g (v := ?_) (a' := ?_) (by kernel_rfl) ?_ ?_ ?_
  rotate_left 2
  · intro K wx hS hK
    refine ld rfl rfl (hS.v (w.heap.size + 1, Q) (by simp)).c ?_
    exact hK _ hS
  · simp only [Act.put, List.setIfInBounds_toArray, List.set_cons_succ, List.set_cons_zero]
    rfl
  refine RS.go1g (v := ?_) (a' := ?_) (by kernel_rfl) ?_ ?_ ?_
  rotate_left 2
  · intro K wx hS hK
    refine ld rfl rfl (hS.v (w.heap.size + 2, R) (by simp)).c ?_
    exact hK _ hS
  · simp only [Act.put, List.setIfInBounds_toArray, List.set_cons_succ, List.set_cons_zero]
    rfl
  refine RS.go1g (v := ?_) (a' := ?_) (by kernel_rfl) ?_ ?_ ?_
  rotate_left 2
  · intro K wx hS hK
    go_simp
    refine (KC.out wx).mono (fun e w2 he => ?_)
    refine ⟨_, he.1, ?_⟩
    exact hK _ (Mem_below hS he.2)
  · simp only [Act.put, List.setIfInBounds_toArray, List.set_cons_succ, List.set_cons_zero]
    rfl
  refine RS.go1g (v := ?_) (a' := ?_) (by kernel_rfl) ?_ ?_ ?_
  rotate_left 2
  · intro K wx hS hK
    go_simp
    exact hK _ hS
  · simp only [Act.put, List.setIfInBounds_toArray, List.set_cons_succ, List.set_cons_zero]
    rfl
  refine RS.go1g (v := ?_) (a' := ?_) (by kernel_rfl) ?_ ?_ ?_
  rotate_left 2
  · intro K wx hS hK
    go_simp
    exact hK _ hS
  · simp only [Act.put, List.setIfInBounds_toArray, List.set_cons_succ, List.set_cons_zero]
    rfl
  refine RS.go0 (a' := ?_) (by kernel_rfl) ?_ ?_
  rotate_left 1
  · simp only [Act.put, List.setIfInBounds_toArray, List.set_cons_succ, List.set_cons_zero]
    rfl
  refine RS.go0 (a' := ?_) (by kernel_rfl) ?_ ?_
  rotate_left 1
  · simp only [Act.put, List.setIfInBounds_toArray, List.set_cons_succ, List.set_cons_zero]
    rfl
  refine RS.go0 (a' := ?_) (by kernel_rfl) ?_ ?_
  rotate_left 1
  · simp only [Act.put, List.setIfInBounds_toArray, List.set_cons_succ, List.set_cons_zero]
    rfl
  refine RS.go0 (a' := ?_) (by kernel_rfl) ?_ ?_
  rotate_left 1
  · simp only [Act.put, List.setIfInBounds_toArray, List.set_cons_succ, List.set_cons_zero]
    rfl
  refine RS.go1g (v := ?_) (a' := ?_) (by kernel_rfl) ?_ ?_ ?_
  rotate_left 2
  · intro K wx hS hK
    go_simp
    exact hK _ hS
  · simp only [Act.put, List.setIfInBounds_toArray, List.set_cons_succ, List.set_cons_zero]
    rfl
  refine RS.go1 (v := ?_) (a' := ?_) rfl ?_ ?_ ?_
  rotate_left 2
  · intro K wx hS hK
    go_simp
    exact hK _ hS
  · simp only [Act.put, List.setIfInBounds_toArray, List.set_cons_succ, List.set_cons_zero]
    rfl
  refine RS.go_end ?_
  intro w9 m9
  clear m4
  go_upto_region 5 with fail
  refine RS.wp_region_one (Mem w [(w.heap.size + 2, R), (w.heap.size + 1, Q), (w.heap.size, P)]) (by kernel_rfl) (by kernel_rfl) (Mem_drew m9) ?_
  dsimp only [List.toList_toArray]
  refine RS.go1 (v := ?_) (a' := ?_) rfl ?_ ?_ ?_
  rotate_left 2
  · intro K wx hS hK
    refine ld rfl rfl (hS.v (w.heap.size, P) (by simp)).c ?_
    exact hK _ hS
  · simp only [Act.put, List.setIfInBounds_toArray, List.set_cons_succ, List.set_cons_zero]
    rfl
  refine RS.go1 (v := ?_) (a' := ?_) rfl ?_ ?_ ?_
  rotate_left 2
  · intro K wx hS hK
    refine ld rfl rfl (hS.v (w.heap.size + 1, Q) (by simp)).c ?_
    exact hK _ hS
  · simp only [Act.put, List.setIfInBounds_toArray, List.set_cons_succ, List.set_cons_zero]
    rfl
  refine RS.go1 (v := ?_) (a' := ?_) rfl ?_ ?_ ?_
  rotate_left 2
  · intro K wx hS hK
    go_simp
    refine (KJ.out wx).mono (fun e w2 he => ?_)
    refine ⟨_, he.1, ?_⟩
    exact hK _ (Mem_below hS he.2)
  · simp only [Act.put, List.setIfInBounds_toArray, List.set_cons_succ, List.set_cons_zero]
    rfl
  refine RS.go1 (v := ?_) (a' := ?_) rfl ?_ ?_ ?_
  rotate_left 2
  · intro K wx hS hK
    refine ld rfl rfl (hS.v (w.heap.size + 2, R) (by simp)).c ?_
    exact hK _ hS
  · simp only [Act.put, List.setIfInBounds_toArray, List.set_cons_succ, List.set_cons_zero]
    rfl
  refine RS.go1 (v := ?_) (a' := ?_) rfl ?_ ?_ ?_
  rotate_left 2
  · intro K wx hS hK
    go_simp
    refine (KX.out wx).mono (fun e w2 he => ?_)
    refine ⟨_, he.1, ?_⟩
    exact hK _ (Mem_below hS he.2)
  · simp only [Act.put, List.setIfInBounds_toArray, List.set_cons_succ, List.set_cons_zero]
    rfl
  refine RS.go1 (v := ?_) (a' := ?_) rfl ?_ ?_ ?_
  rotate_left 2
  · intro K wx hS hK
    refine ld rfl rfl (hS.v (w.heap.size, P) (by simp)).c ?_
    exact hK _ hS
  · simp only [Act.put, List.setIfInBounds_toArray, List.set_cons_succ, List.set_cons_zero]
    rfl
  refine RS.go1 (v := ?_) (a' := ?_) rfl ?_ ?_ ?_
  rotate_left 2
  · intro K wx hS hK
    refine ld rfl rfl (hS.v (w.heap.size + 2, R) (by simp)).c ?_
    exact hK _ hS
  · simp only [Act.put, List.setIfInBounds_toArray, List.set_cons_succ, List.set_cons_zero]
    rfl
  refine RS.go1 (v := ?_) (a' := ?_) rfl ?_ ?_ ?_
  rotate_left 2
  · intro K wx hS hK
    go_simp
    refine (KD.out wx).mono (fun e w2 he => ?_)
    refine ⟨_, he.1, ?_⟩
    exact hK _ (Mem_below hS he.2)
  · simp only [Act.put, List.setIfInBounds_toArray, List.set_cons_succ, List.set_cons_zero]
    rfl
  refine RS.go1 (v := ?_) (a' := ?_) rfl ?_ ?_ ?_
  rotate_left 2
  · intro K wx hS hK
    go_simp
    exact hK _ hS
  · simp only [Act.put, List.setIfInBounds_toArray, List.set_cons_succ, List.set_cons_zero]
    rfl
  refine RS.go1g (v := ?_) (a' := ?_) (by kernel_rfl) ?_ ?_ ?_
  rotate_left 2
  · intro K wx hS hK
    refine ld rfl rfl (hS.v (w.heap.size + 1, Q) (by simp)).c ?_
    exact hK _ hS
  · simp only [Act.put, List.setIfInBounds_toArray, List.set_cons_succ, List.set_cons_zero]
    rfl
  refine RS.go1g (v := ?_) (a' := ?_) (by kernel_rfl) ?_ ?_ ?_
  rotate_left 2
  · intro K wx hS hK
    refine ld rfl rfl (hS.v (w.heap.size + 2, R) (by simp)).c ?_
    exact hK _ hS
  · simp only [Act.put, List.setIfInBounds_toArray, List.set_cons_succ, List.set_cons_zero]
    rfl
  refine RS.go1g (v := ?_) (a' := ?_) (by kernel_rfl) ?_ ?_ ?_
  rotate_left 2
  · intro K wx hS hK
    go_simp
    refine (KC.out wx).mono (fun e w2 he => ?_)
    refine ⟨_, he.1, ?_⟩
    exact hK _ (Mem_below hS he.2)
  · simp only [Act.put, List.setIfInBounds_toArray, List.set_cons_succ, List.set_cons_zero]
    rfl
  refine RS.go1 (v := ?_) (a' := ?_) rfl ?_ ?_ ?_
  rotate_left 2
  · intro K wx hS hK
    go_simp
    exact hK _ hS
  · simp only [Act.put, List.setIfInBounds_toArray, List.set_cons_succ, List.set_cons_zero]
    rfl
  refine RS.go1 (v := ?_) (a' := ?_) rfl ?_ ?_ ?_
  rotate_left 2
  · intro K wx hS hK
    go_simp
    exact hK _ hS
  · simp only [Act.put, List.setIfInBounds_toArray, List.set_cons_succ, List.set_cons_zero]
    rfl
  refine RS.go1 (v := ?_) (a' := ?_) rfl ?_ ?_ ?_
  rotate_left 2
  · intro K wx hS hK
    go_simp
    exact hK _ hS
  · simp only [Act.put, List.setIfInBounds_toArray, List.set_cons_succ, List.set_cons_zero]
    rfl
  refine RS.go_end ?_
  intro w8 m8
  have b8 := m8.b
  clear m8 m9
  go_wp2_with fail
  go_ret
  exact ⟨by simp, b8⟩
set_option maxHeartbeats 2000000 in
set_option maxRecDepth 100000 in
theorem law_within_e (P Q R : Nat → Bool) (w : World) (ha : wi P Q = true) (hb : wi Q P = false) (hc : wi Q R = true) (hd : wi P R = true) :
    Calls Try.prog 6 #[Hv (FB P), Hv (FB Q), Hv (FB R)] w fun e w' => e = .returned (.bool true) ∧ Below w.heap.size w w' := by
  have KP : Hid (∀ w : World, Calls Try.prog 11 #[Hv (FB P), Hv (FB P)] w fun e w' => e = .returned (.bool true) ∧ Below w.heap.size w w') := fun w => by have := within_any P P w; rwa [wi_self] at this
  have KA : Hid (∀ w : World, Calls Try.prog 11 #[Hv (FB P), Hv (FB Q)] w fun e w' => e = .returned (.bool true) ∧ Below w.heap.size w w') := fun w => by have := within_any P Q w; rwa [ha] at this
  have KB : Hid (∀ w : World, Calls Try.prog 11 #[Hv (FB Q), Hv (FB P)] w fun e w' => e = .returned (.bool false) ∧ Below w.heap.size w w') := fun w => by have := within_any Q P w; rwa [hb] at this
  have KC : Hid (∀ w : World, Calls Try.prog 11 #[Hv (FB Q), Hv (FB R)] w fun e w' => e = .returned (.bool true) ∧ Below w.heap.size w w') := fun w => by have := within_any Q R w; rwa [hc] at this
  have KD : Hid (∀ w : World, Calls Try.prog 11 #[Hv (FB P), Hv (FB R)] w fun e w' => e = .returned (.bool true) ∧ Below w.heap.size w w') := fun w => by have := within_any P R w; rwa [hd] at this
  have KJ : Hid (∀ w : World, Calls Try.prog 9 #[Hv (FB P), Hv (FB Q)] w fun e w' => e = .returned (Hv (FB (jn P Q))) ∧ Below w.heap.size w w') := fun w => join_any P Q w
  have KX : Hid (∀ w : World, Calls Try.prog 11 #[Hv (FB (jn P Q)), Hv (FB R)] w fun e w' => e = .returned (.bool true) ∧ Below w.heap.size w w') := fun w => by have := within_any (jn P Q) R w; rw [wi_jn, hc, hd] at this; exact this
  clear ha hc hd hb
  go_enter Try.func6, Try.ntmps6
  go_upto_region 1 with fail
  dsimp only [Hv]
  have m0 := Mem_nil w
  have m1 := Mem_box m0 (P) 24
  have z1 : (w.alloc (.cells (h32 (FB (P))).toArray 24)).heap.size = w.heap.size + 1 := by simp
  generalize w.alloc (.cells (h32 (FB (P))).toArray 24) = W1 at m1 z1 ⊢
  have m2 := Mem_box m1 (Q) 24
  have z2 : (W1.alloc (.cells (h32 (FB (Q))).toArray 24)).heap.size = w.heap.size + 2 := by simp [z1]
  rw [z1] at m2
  generalize W1.alloc (.cells (h32 (FB (Q))).toArray 24) = W2 at m2 z2 ⊢
  have m3 := Mem_box m2 (R) 24
  have z3 : (W2.alloc (.cells (h32 (FB (R))).toArray 24)).heap.size = w.heap.size + 3 := by simp [z2]
  rw [z2] at m3
  generalize W2.alloc (.cells (h32 (FB (R))).toArray 24) = W3 at m3 z3 ⊢
  generalize (h32 (FB (P))).toArray = c0
  generalize (h32 (FB (Q))).toArray = c1
  generalize (h32 (FB (R))).toArray = c2
  clear m1 z1 m2 z2 m0 z3
  go_wp2_with fail
  refine (alive10_any _).mono ?_
  rintro e w1 ⟨rfl, hb1⟩
  have m4 := Mem_below m3 hb1
  clear m3 hb1
  go_upto_region 3 with fail
  refine RS.wp_region_flat (Mem w [(w.heap.size + 2, R), (w.heap.size + 1, Q), (w.heap.size, P)]) 35 (by kernel_rfl) (m4) ?_
  simp only [List.take_succ_cons, List.take_zero, List.drop_succ_cons, List.drop_zero]
  refine RS.go1 (v := ?_) (a' := ?_) rfl ?_ ?_ ?_
  rotate_left 2
  · intro K wx hS hK
    refine ld rfl rfl (hS.v (w.heap.size, P) (by simp)).c ?_
    exact hK _ hS
  · simp only [Act.put, List.setIfInBounds_toArray, List.set_cons_succ, List.set_cons_zero]
    rfl
  refine RS.go1 (v := ?_) (a' := ?_) rfl ?_ ?_ ?_
  rotate_left 2
  · intro K wx hS hK
    refine ld rfl rfl (hS.v (w.heap.size, P) (by simp)).c ?_
    exact hK _ hS
  · simp only [Act.put, List.setIfInBounds_toArray, List.set_cons_succ, List.set_cons_zero]
    rfl
  refine RS.go1 (v := ?_) (a' := ?_) rfl ?_ ?_ ?_
  rotate_left 2
  · intro K wx hS hK
    go_simp
    refine (KP.out wx).mono (fun e w2 he => ?_)
    refine ⟨_, he.1, ?_⟩
    exact hK _ (Mem_below hS he.2)
  · simp only [Act.put, List.setIfInBounds_toArray, List.set_cons_succ, List.set_cons_zero]
    rfl
  refine RS.go1 (v := ?_) (a' := ?_) rfl ?_ ?_ ?_
  rotate_left 2
  · intro K wx hS hK
    go_simp
    exact hK _ hS
  · simp only [Act.put, List.setIfInBounds_toArray, List.set_cons_succ, List.set_cons_zero]
    rfl
  refine RS.go1 (v := ?_) (a' := ?_) rfl ?_ ?_ ?_
  rotate_left 2
  · intro K wx hS hK
    go_simp
    exact hK _ hS
  · simp only [Act.put, List.setIfInBounds_toArray, List.set_cons_succ, List.set_cons_zero]
    rfl
  refine RS.go1g (v := ?_) (a' := ?_) (by kernel_rfl) ?_ ?_ ?_
  rotate_left 2
  · intro K wx hS hK
    refine ld rfl rfl (hS.v (w.heap.size, P) (by simp)).c ?_
    exact hK _ hS
  · simp only [Act.put, List.setIfInBounds_toArray, List.set_cons_succ, List.set_cons_zero]
    rfl
  refine RS.go1g (v := ?_) (a' := ?_) (by kernel_rfl) ?_ ?_ ?_
  rotate_left 2
  · intro K wx hS hK
    refine ld rfl rfl (hS.v (w.heap.size + 1, Q) (by simp)).c ?_
    exact hK _ hS
  · simp only [Act.put, List.setIfInBounds_toArray, List.set_cons_succ, List.set_cons_zero]
    rfl
  refine RS.go1g (v := ?_) (a' := ?_) (by kernel_rfl) ?_ ?_ ?_
  rotate_left 2
  · intro K wx hS hK
    go_simp
    refine (KA.out wx).mono (fun e w2 he => ?_)
    refine ⟨_, he.1, ?_⟩
    exact hK _ (Mem_below hS he.2)
  · simp only [Act.put, List.setIfInBounds_toArray, List.set_cons_succ, List.set_cons_zero]
    rfl
  refine RS.go1g (v := ?_) (a' := ?_) (by kernel_rfl) ?_ ?_ ?_
  rotate_left 2
  · intro K wx hS hK
    go_simp
    exact hK _ hS
  · simp only [Act.put, List.setIfInBounds_toArray, List.set_cons_succ, List.set_cons_zero]
    rfl
  refine RS.go1g (v := ?_) (a' := ?_) (by kernel_rfl) ?_ ?_ ?_
  rotate_left 2
  · intro K wx hS hK
    refine ld rfl rfl (hS.v (w.heap.size + 1, Q) (by simp)).c ?_
    exact hK _ hS
  · simp only [Act.put, List.setIfInBounds_toArray, List.set_cons_succ, List.set_cons_zero]
    rfl
  refine RS.go1g (v := ?_) (a' := ?_) (by kernel_rfl) ?_ ?_ ?_
  rotate_left 2
  · intro K wx hS hK
    refine ld rfl rfl (hS.v (w.heap.size, P) (by simp)).c ?_
    exact hK _ hS
  · simp only [Act.put, List.setIfInBounds_toArray, List.set_cons_succ, List.set_cons_zero]
    rfl
  refine RS.go1g (v := ?_) (a' := ?_) (by kernel_rfl) ?_ ?_ ?_
  rotate_left 2
  · intro K wx hS hK
    go_simp
    refine (KB.out wx).mono (fun e w2 he => ?_)
    refine ⟨_, he.1, ?_⟩
    exact hK _ (Mem_below hS he.2)
  · simp only [Act.put, List.setIfInBounds_toArray, List.set_cons_succ, List.set_cons_zero]
    rfl
  refine RS.go1g (v := ?_) (a' := ?_) (by kernel_rfl) ?_ ?_ ?_
  rotate_left 2
  · intro K wx hS hK
    go_simp
    exact hK _ hS
  · simp only [Act.put, List.setIfInBounds_toArray, List.set_cons_succ, List.set_cons_zero]
    rfl
  refine RS.go1g (v := ?_) (a' := ?_) (by kernel_rfl) ?_ ?_ ?_
  rotate_left 2
  · intro K wx hS hK
    go_simp
    exact hK _ hS
  · simp only [Act.put, List.setIfInBounds_toArray, List.set_cons_succ, List.set_cons_zero]
    rfl
  refine RS.go0 (a' := ?_) (by kernel_rfl) ?_ ?_
  rotate_left 1
  · simp only [Act.put, List.setIfInBounds_toArray, List.set_cons_succ, List.set_cons_zero]
    rfl
  refine RS.go0 (a' := ?_) (by kernel_rfl) ?_ ?_
  rotate_left 1
  · simp only [Act.put, List.setIfInBounds_toArray, List.set_cons_succ, List.set_cons_zero]
    rfl
  refine RS.go0 (a' := ?_) (by kernel_rfl) ?_ ?_
  rotate_left 1
  · simp only [Act.put, List.setIfInBounds_toArray, List.set_cons_succ, List.set_cons_zero]
    rfl
  refine RS.go1g (v := ?_) (a' := ?_) (by kernel_rfl) ?_ ?_ ?_
  rotate_left 2
  · intro K wx hS hK
    go_simp
    exact hK _ hS
  · simp only [Act.put, List.setIfInBounds_toArray, List.set_cons_succ, List.set_cons_zero]
    rfl
  refine RS.go1 (v := ?_) (a' := ?_) rfl ?_ ?_ ?_
  rotate_left 2
  · intro K wx hS hK
    go_simp
    exact hK _ hS
  · simp only [Act.put, List.setIfInBounds_toArray, List.set_cons_succ, List.set_cons_zero]
    rfl
  refine RS.go1 (v := ?_) (a' := ?_) rfl ?_ ?_ ?_
  rotate_left 2
  · intro K wx hS hK
    go_simp
    exact hK _ hS
  · simp only [Act.put, List.setIfInBounds_toArray, List.set_cons_succ, List.set_cons_zero]
    rfl
  refine RS.go1g (v := ?_) (a' := ?_) (by kernel_rfl) ?_ ?_ ?_
  rotate_left 2
  · intro K wx hS hK
    refine ld rfl rfl (hS.v (w.heap.size, P) (by simp)).c ?_
    exact hK _ hS
  · simp only [Act.put, List.setIfInBounds_toArray, List.set_cons_succ, List.set_cons_zero]
    rfl
  refine RS.go1g (v := ?_) (a' := ?_) (by kernel_rfl) ?_ ?_ ?_
  rotate_left 2
  · intro K wx hS hK
    refine ld rfl rfl (hS.v (w.heap.size + 1, Q) (by simp)).c ?_
    exact hK _ hS
  · simp only [Act.put, List.setIfInBounds_toArray, List.set_cons_succ, List.set_cons_zero]
    rfl
  refine RS.go1g (v := ?_) (a' := ?_) (by kernel_rfl) ?_ ?_ ?_
  rotate_left 2
  · intro K wx hS hK
    go_simp
    refine (KA.out wx).mono (fun e w2 he => ?_)
    refine ⟨_, he.1, ?_⟩
    exact hK _ (Mem_below hS he.2)
  · simp only [Act.put, List.setIfInBounds_toArray, List.set_cons_succ, List.set_cons_zero]
    rfl
  refine RS.go1g (v := ?_) (a' := ?_) (by kernel_rfl) ?_ ?_ ?_
  rotate_left 2
  · intro K wx hS hK
    go_simp
    exact hK _ hS
  · simp only [Act.put, List.setIfInBounds_toArray, List.set_cons_succ, List.set_cons_zero]
    rfl
  refine RS.go1g (v := ?_) (a' := ?_) (by kernel_rfl) ?_ ?_ ?_
  rotate_left 2
  · intro K wx hS hK
    refine ld rfl rfl (hS.v (w.heap.size + 1, Q) (by simp)).c ?_
    exact hK _ hS
  · simp only [Act.put, List.setIfInBounds_toArray, List.set_cons_succ, List.set_cons_zero]
    rfl
  refine RS.go1g (v := ?_) (a' := ?_) (by kernel_rfl) ?_ ?_ ?_
  rotate_left 2
  · intro K wx hS hK
    refine ld rfl rfl (hS.v (w.heap.size + 2, R) (by simp)).c ?_
    exact hK _ hS
  · simp only [Act.put, List.setIfInBounds_toArray, List.set_cons_succ, List.set_cons_zero]
    rfl
  refine RS.go1g (v := ?_) (a' := ?_) (by kernel_rfl) ?_ ?_ ?_
  rotate_left 2
  · intro K wx hS hK
    go_simp
    refine (KC.out wx).mono (fun e w2 he => ?_)
    refine ⟨_, he.1, ?_⟩
    exact hK _ (Mem_below hS he.2)
  · simp only [Act.put, List.setIfInBounds_toArray, List.set_cons_succ, List.set_cons_zero]
    rfl
  refine RS.go1g (v := ?_) (a' := ?_) (by kernel_rfl) ?_ ?_ ?_
  rotate_left 2
  · intro K wx hS hK
    go_simp
    exact hK _ hS
  · simp only [Act.put, List.setIfInBounds_toArray, List.set_cons_succ, List.set_cons_zero]
    rfl
  refine RS.go1g (v := ?_) (a' := ?_) (by kernel_rfl) ?_ ?_ ?_
  rotate_left 2
  · intro K wx hS hK
    go_simp
    exact hK _ hS
  · simp only [Act.put, List.setIfInBounds_toArray, List.set_cons_succ, List.set_cons_zero]
    rfl
  refine RS.go1g (v := ?_) (a' := ?_) (by kernel_rfl) ?_ ?_ ?_
  rotate_left 2
  · intro K wx hS hK
    refine ld rfl rfl (hS.v (w.heap.size, P) (by simp)).c ?_
    exact hK _ hS
  · simp only [Act.put, List.setIfInBounds_toArray, List.set_cons_succ, List.set_cons_zero]
    rfl
  refine RS.go1g (v := ?_) (a' := ?_) (by kernel_rfl) ?_ ?_ ?_
  rotate_left 2
  · intro K wx hS hK
    refine ld rfl rfl (hS.v (w.heap.size + 2, R) (by simp)).c ?_
    exact hK _ hS
  · simp only [Act.put, List.setIfInBounds_toArray, List.set_cons_succ, List.set_cons_zero]
    rfl
  refine RS.go1g (v := ?_) (a' := ?_) (by kernel_rfl) ?_ ?_ ?_
  rotate_left 2
  · intro K wx hS hK
    go_simp
    refine (KD.out wx).mono (fun e w2 he => ?_)
    refine ⟨_, he.1, ?_⟩
    exact hK _ (Mem_below hS he.2)
  · simp only [Act.put, List.setIfInBounds_toArray, List.set_cons_succ, List.set_cons_zero]
    rfl
  refine RS.go1g (v := ?_) (a' := ?_) (by kernel_rfl) ?_ ?_ ?_
  rotate_left 2
  · intro K wx hS hK
    go_simp
    exact hK _ hS
  · simp only [Act.put, List.setIfInBounds_toArray, List.set_cons_succ, List.set_cons_zero]
    rfl
  refine RS.go1g (v := ?_) (a' := ?_) (by kernel_rfl) ?_ ?_ ?_
  rotate_left 2
  · intro K wx hS hK
    go_simp
    exact hK _ hS
  · simp only [Act.put, List.setIfInBounds_toArray, List.set_cons_succ, List.set_cons_zero]
    rfl
  refine RS.go1 (v := ?_) (a' := ?_) rfl ?_ ?_ ?_
  rotate_left 2
  · intro K wx hS hK
    go_simp
    exact hK _ hS
  · simp only [Act.put, List.setIfInBounds_toArray, List.set_cons_succ, List.set_cons_zero]
    rfl
  refine RS.go_end ?_
  intro w9 m9
  clear m4
  go_upto_region 5 with fail
  refine RS.wp_region_one (Mem w [(w.heap.size + 2, R), (w.heap.size + 1, Q), (w.heap.size, P)]) (by kernel_rfl) (by kernel_rfl) (Mem_drew m9) ?_
  dsimp only [List.toList_toArray]
  refine RS.go1 (v := ?_) (a' := ?_) rfl ?_ ?_ ?_
  rotate_left 2
  · intro K wx hS hK
    refine ld rfl rfl (hS.v (w.heap.size, P) (by simp)).c ?_
    exact hK _ hS
  · simp only [Act.put, List.setIfInBounds_toArray, List.set_cons_succ, List.set_cons_zero]
    rfl
  refine RS.go1 (v := ?_) (a' := ?_) rfl ?_ ?_ ?_
  rotate_left 2
  · intro K wx hS hK
    refine ld rfl rfl (hS.v (w.heap.size + 1, Q) (by simp)).c ?_
    exact hK _ hS
  · simp only [Act.put, List.setIfInBounds_toArray, List.set_cons_succ, List.set_cons_zero]
    rfl
  refine RS.go1 (v := ?_) (a' := ?_) rfl ?_ ?_ ?_
  rotate_left 2
  · intro K wx hS hK
    go_simp
    refine (KJ.out wx).mono (fun e w2 he => ?_)
    refine ⟨_, he.1, ?_⟩
    exact hK _ (Mem_below hS he.2)
  · simp only [Act.put, List.setIfInBounds_toArray, List.set_cons_succ, List.set_cons_zero]
    rfl
  refine RS.go1 (v := ?_) (a' := ?_) rfl ?_ ?_ ?_
  rotate_left 2
  · intro K wx hS hK
    refine ld rfl rfl (hS.v (w.heap.size + 2, R) (by simp)).c ?_
    exact hK _ hS
  · simp only [Act.put, List.setIfInBounds_toArray, List.set_cons_succ, List.set_cons_zero]
    rfl
  refine RS.go1 (v := ?_) (a' := ?_) rfl ?_ ?_ ?_
  rotate_left 2
  · intro K wx hS hK
    go_simp
    refine (KX.out wx).mono (fun e w2 he => ?_)
    refine ⟨_, he.1, ?_⟩
    exact hK _ (Mem_below hS he.2)
  · simp only [Act.put, List.setIfInBounds_toArray, List.set_cons_succ, List.set_cons_zero]
    rfl
  refine RS.go1 (v := ?_) (a' := ?_) rfl ?_ ?_ ?_
  rotate_left 2
  · intro K wx hS hK
    refine ld rfl rfl (hS.v (w.heap.size, P) (by simp)).c ?_
    exact hK _ hS
  · simp only [Act.put, List.setIfInBounds_toArray, List.set_cons_succ, List.set_cons_zero]
    rfl
  refine RS.go1 (v := ?_) (a' := ?_) rfl ?_ ?_ ?_
  rotate_left 2
  · intro K wx hS hK
    refine ld rfl rfl (hS.v (w.heap.size + 2, R) (by simp)).c ?_
    exact hK _ hS
  · simp only [Act.put, List.setIfInBounds_toArray, List.set_cons_succ, List.set_cons_zero]
    rfl
  refine RS.go1 (v := ?_) (a' := ?_) rfl ?_ ?_ ?_
  rotate_left 2
  · intro K wx hS hK
    go_simp
    refine (KD.out wx).mono (fun e w2 he => ?_)
    refine ⟨_, he.1, ?_⟩
    exact hK _ (Mem_below hS he.2)
  · simp only [Act.put, List.setIfInBounds_toArray, List.set_cons_succ, List.set_cons_zero]
    rfl
  refine RS.go1 (v := ?_) (a' := ?_) rfl ?_ ?_ ?_
  rotate_left 2
  · intro K wx hS hK
    go_simp
    exact hK _ hS
  · simp only [Act.put, List.setIfInBounds_toArray, List.set_cons_succ, List.set_cons_zero]
    rfl
  refine RS.go1g (v := ?_) (a' := ?_) (by kernel_rfl) ?_ ?_ ?_
  rotate_left 2
  · intro K wx hS hK
    refine ld rfl rfl (hS.v (w.heap.size + 1, Q) (by simp)).c ?_
    exact hK _ hS
  · simp only [Act.put, List.setIfInBounds_toArray, List.set_cons_succ, List.set_cons_zero]
    rfl
  refine RS.go1g (v := ?_) (a' := ?_) (by kernel_rfl) ?_ ?_ ?_
  rotate_left 2
  · intro K wx hS hK
    refine ld rfl rfl (hS.v (w.heap.size + 2, R) (by simp)).c ?_
    exact hK _ hS
  · simp only [Act.put, List.setIfInBounds_toArray, List.set_cons_succ, List.set_cons_zero]
    rfl
  refine RS.go1g (v := ?_) (a' := ?_) (by kernel_rfl) ?_ ?_ ?_
  rotate_left 2
  · intro K wx hS hK
    go_simp
    refine (KC.out wx).mono (fun e w2 he => ?_)
    refine ⟨_, he.1, ?_⟩
    exact hK _ (Mem_below hS he.2)
  · simp only [Act.put, List.setIfInBounds_toArray, List.set_cons_succ, List.set_cons_zero]
    rfl
  refine RS.go1 (v := ?_) (a' := ?_) rfl ?_ ?_ ?_
  rotate_left 2
  · intro K wx hS hK
    go_simp
    exact hK _ hS
  · simp only [Act.put, List.setIfInBounds_toArray, List.set_cons_succ, List.set_cons_zero]
    rfl
  refine RS.go1 (v := ?_) (a' := ?_) rfl ?_ ?_ ?_
  rotate_left 2
  · intro K wx hS hK
    go_simp
    exact hK _ hS
  · simp only [Act.put, List.setIfInBounds_toArray, List.set_cons_succ, List.set_cons_zero]
    rfl
  refine RS.go1 (v := ?_) (a' := ?_) rfl ?_ ?_ ?_
  rotate_left 2
  · intro K wx hS hK
    go_simp
    exact hK _ hS
  · simp only [Act.put, List.setIfInBounds_toArray, List.set_cons_succ, List.set_cons_zero]
    rfl
  refine RS.go_end ?_
  intro w8 m8
  have b8 := m8.b
  clear m8 m9
  go_wp2_with fail
  go_ret
  exact ⟨by simp, b8⟩
set_option maxHeartbeats 2000000 in
set_option maxRecDepth 100000 in
theorem law_within_f (P Q R : Nat → Bool) (w : World) (ha : wi P Q = true) (hb : wi Q P = true) (hc : wi Q R = false) (hd : wi P R = false) :
    Calls Try.prog 6 #[Hv (FB P), Hv (FB Q), Hv (FB R)] w fun e w' => e = .returned (.bool true) ∧ Below w.heap.size w w' := by
  have KP : Hid (∀ w : World, Calls Try.prog 11 #[Hv (FB P), Hv (FB P)] w fun e w' => e = .returned (.bool true) ∧ Below w.heap.size w w') := fun w => by have := within_any P P w; rwa [wi_self] at this
  have KA : Hid (∀ w : World, Calls Try.prog 11 #[Hv (FB P), Hv (FB Q)] w fun e w' => e = .returned (.bool true) ∧ Below w.heap.size w w') := fun w => by have := within_any P Q w; rwa [ha] at this
  have KB : Hid (∀ w : World, Calls Try.prog 11 #[Hv (FB Q), Hv (FB P)] w fun e w' => e = .returned (.bool true) ∧ Below w.heap.size w w') := fun w => by have := within_any Q P w; rwa [hb] at this
  have KC : Hid (∀ w : World, Calls Try.prog 11 #[Hv (FB Q), Hv (FB R)] w fun e w' => e = .returned (.bool false) ∧ Below w.heap.size w w') := fun w => by have := within_any Q R w; rwa [hc] at this
  have KD : Hid (∀ w : World, Calls Try.prog 11 #[Hv (FB P), Hv (FB R)] w fun e w' => e = .returned (.bool false) ∧ Below w.heap.size w w') := fun w => by have := within_any P R w; rwa [hd] at this
  have KJ : Hid (∀ w : World, Calls Try.prog 9 #[Hv (FB P), Hv (FB Q)] w fun e w' => e = .returned (Hv (FB (jn P Q))) ∧ Below w.heap.size w w') := fun w => join_any P Q w
  have KX : Hid (∀ w : World, Calls Try.prog 11 #[Hv (FB (jn P Q)), Hv (FB R)] w fun e w' => e = .returned (.bool false) ∧ Below w.heap.size w w') := fun w => by have := within_any (jn P Q) R w; rw [wi_jn, hc, hd] at this; exact this
  have EQ : Hid (same 32 (FB P) (FB Q) = true) := wi_anti ha hb
  clear ha hc hd hb
  go_enter Try.func6, Try.ntmps6
  go_upto_region 1 with fail
  dsimp only [Hv]
  have m0 := Mem_nil w
  have m1 := Mem_box m0 (P) 24
  have z1 : (w.alloc (.cells (h32 (FB (P))).toArray 24)).heap.size = w.heap.size + 1 := by simp
  generalize w.alloc (.cells (h32 (FB (P))).toArray 24) = W1 at m1 z1 ⊢
  have m2 := Mem_box m1 (Q) 24
  have z2 : (W1.alloc (.cells (h32 (FB (Q))).toArray 24)).heap.size = w.heap.size + 2 := by simp [z1]
  rw [z1] at m2
  generalize W1.alloc (.cells (h32 (FB (Q))).toArray 24) = W2 at m2 z2 ⊢
  have m3 := Mem_box m2 (R) 24
  have z3 : (W2.alloc (.cells (h32 (FB (R))).toArray 24)).heap.size = w.heap.size + 3 := by simp [z2]
  rw [z2] at m3
  generalize W2.alloc (.cells (h32 (FB (R))).toArray 24) = W3 at m3 z3 ⊢
  generalize (h32 (FB (P))).toArray = c0
  generalize (h32 (FB (Q))).toArray = c1
  generalize (h32 (FB (R))).toArray = c2
  clear m1 z1 m2 z2 m0 z3
  go_wp2_with fail
  refine (alive10_any _).mono ?_
  rintro e w1 ⟨rfl, hb1⟩
  have m4 := Mem_below m3 hb1
  clear m3 hb1
  go_upto_region 3 with fail
  refine RS.wp_region_flat (Mem w [(w.heap.size + 2, R), (w.heap.size + 1, Q), (w.heap.size, P)]) 35 (by kernel_rfl) (m4) ?_
  simp only [List.take_succ_cons, List.take_zero, List.drop_succ_cons, List.drop_zero]
  refine RS.go1 (v := ?_) (a' := ?_) rfl ?_ ?_ ?_
  rotate_left 2
  · intro K wx hS hK
    refine ld rfl rfl (hS.v (w.heap.size, P) (by simp)).c ?_
    exact hK _ hS
  · simp only [Act.put, List.setIfInBounds_toArray, List.set_cons_succ, List.set_cons_zero]
    rfl
  refine RS.go1 (v := ?_) (a' := ?_) rfl ?_ ?_ ?_
  rotate_left 2
  · intro K wx hS hK
    refine ld rfl rfl (hS.v (w.heap.size, P) (by simp)).c ?_
    exact hK _ hS
  · simp only [Act.put, List.setIfInBounds_toArray, List.set_cons_succ, List.set_cons_zero]
    rfl
  refine RS.go1 (v := ?_) (a' := ?_) rfl ?_ ?_ ?_
  rotate_left 2
  · intro K wx hS hK
    go_simp
    refine (KP.out wx).mono (fun e w2 he => ?_)
    refine ⟨_, he.1, ?_⟩
    exact hK _ (Mem_below hS he.2)
  · simp only [Act.put, List.setIfInBounds_toArray, List.set_cons_succ, List.set_cons_zero]
    rfl
  refine RS.go1 (v := ?_) (a' := ?_) rfl ?_ ?_ ?_
  rotate_left 2
  · intro K wx hS hK
    go_simp
    exact hK _ hS
  · simp only [Act.put, List.setIfInBounds_toArray, List.set_cons_succ, List.set_cons_zero]
    rfl
  refine RS.go1 (v := ?_) (a' := ?_) rfl ?_ ?_ ?_
  rotate_left 2
  · intro K wx hS hK
    go_simp
    exact hK _ hS
  · simp only [Act.put, List.setIfInBounds_toArray, List.set_cons_succ, List.set_cons_zero]
    rfl
  refine RS.go1g (v := ?_) (a' := ?_) (by kernel_rfl) ?_ ?_ ?_
  rotate_left 2
  · intro K wx hS hK
    refine ld rfl rfl (hS.v (w.heap.size, P) (by simp)).c ?_
    exact hK _ hS
  · simp only [Act.put, List.setIfInBounds_toArray, List.set_cons_succ, List.set_cons_zero]
    rfl
  refine RS.go1g (v := ?_) (a' := ?_) (by kernel_rfl) ?_ ?_ ?_
  rotate_left 2
  · intro K wx hS hK
    refine ld rfl rfl (hS.v (w.heap.size + 1, Q) (by simp)).c ?_
    exact hK _ hS
  · simp only [Act.put, List.setIfInBounds_toArray, List.set_cons_succ, List.set_cons_zero]
    rfl
  refine RS.go1g (v := ?_) (a' := ?_) (by kernel_rfl) ?_ ?_ ?_
  rotate_left 2
  · intro K wx hS hK
    go_simp
    refine (KA.out wx).mono (fun e w2 he => ?_)
    refine ⟨_, he.1, ?_⟩
    exact hK _ (Mem_below hS he.2)
  · simp only [Act.put, List.setIfInBounds_toArray, List.set_cons_succ, List.set_cons_zero]
    rfl
  refine RS.go1g (v := ?_) (a' := ?_) (by kernel_rfl) ?_ ?_ ?_
  rotate_left 2
  · intro K wx hS hK
    go_simp
    exact hK _ hS
  · simp only [Act.put, List.setIfInBounds_toArray, List.set_cons_succ, List.set_cons_zero]
    rfl
  refine RS.go1g (v := ?_) (a' := ?_) (by kernel_rfl) ?_ ?_ ?_
  rotate_left 2
  · intro K wx hS hK
    refine ld rfl rfl (hS.v (w.heap.size + 1, Q) (by simp)).c ?_
    exact hK _ hS
  · simp only [Act.put, List.setIfInBounds_toArray, List.set_cons_succ, List.set_cons_zero]
    rfl
  refine RS.go1g (v := ?_) (a' := ?_) (by kernel_rfl) ?_ ?_ ?_
  rotate_left 2
  · intro K wx hS hK
    refine ld rfl rfl (hS.v (w.heap.size, P) (by simp)).c ?_
    exact hK _ hS
  · simp only [Act.put, List.setIfInBounds_toArray, List.set_cons_succ, List.set_cons_zero]
    rfl
  refine RS.go1g (v := ?_) (a' := ?_) (by kernel_rfl) ?_ ?_ ?_
  rotate_left 2
  · intro K wx hS hK
    go_simp
    refine (KB.out wx).mono (fun e w2 he => ?_)
    refine ⟨_, he.1, ?_⟩
    exact hK _ (Mem_below hS he.2)
  · simp only [Act.put, List.setIfInBounds_toArray, List.set_cons_succ, List.set_cons_zero]
    rfl
  refine RS.go1g (v := ?_) (a' := ?_) (by kernel_rfl) ?_ ?_ ?_
  rotate_left 2
  · intro K wx hS hK
    go_simp
    exact hK _ hS
  · simp only [Act.put, List.setIfInBounds_toArray, List.set_cons_succ, List.set_cons_zero]
    rfl
  refine RS.go1g (v := ?_) (a' := ?_) (by kernel_rfl) ?_ ?_ ?_
  rotate_left 2
  · intro K wx hS hK
    go_simp
    exact hK _ hS
  · simp only [Act.put, List.setIfInBounds_toArray, List.set_cons_succ, List.set_cons_zero]
    rfl
  refine RS.go1g (v := ?_) (a' := ?_) (by kernel_rfl) ?_ ?_ ?_
  rotate_left 2
  · intro K wx hS hK
    refine ld rfl rfl (hS.v (w.heap.size, P) (by simp)).c ?_
    exact hK _ hS
  · simp only [Act.put, List.setIfInBounds_toArray, List.set_cons_succ, List.set_cons_zero]
    rfl
  refine RS.go1g (v := ?_) (a' := ?_) (by kernel_rfl) ?_ ?_ ?_
  rotate_left 2
  · intro K wx hS hK
    refine ld rfl rfl (hS.v (w.heap.size + 1, Q) (by simp)).c ?_
    exact hK _ hS
  · simp only [Act.put, List.setIfInBounds_toArray, List.set_cons_succ, List.set_cons_zero]
    rfl
  refine RS.go1g (v := ?_) (a' := ?_) (by kernel_rfl) ?_ ?_ ?_
  rotate_left 2
  · intro K wx hS hK
    refine neq (b := false) rfl rfl rfl (by rw [EQ.out]; rfl) ?_
    exact hK _ hS
  · simp only [Act.put, List.setIfInBounds_toArray, List.set_cons_succ, List.set_cons_zero]
    rfl
  refine RS.go1g (v := ?_) (a' := ?_) (by kernel_rfl) ?_ ?_ ?_
  rotate_left 2
  · intro K wx hS hK
    go_simp
    exact hK _ hS
  · simp only [Act.put, List.setIfInBounds_toArray, List.set_cons_succ, List.set_cons_zero]
    rfl
  refine RS.go1 (v := ?_) (a' := ?_) rfl ?_ ?_ ?_
  rotate_left 2
  · intro K wx hS hK
    go_simp
    exact hK _ hS
  · simp only [Act.put, List.setIfInBounds_toArray, List.set_cons_succ, List.set_cons_zero]
    rfl
  refine RS.go1 (v := ?_) (a' := ?_) rfl ?_ ?_ ?_
  rotate_left 2
  · intro K wx hS hK
    go_simp
    exact hK _ hS
  · simp only [Act.put, List.setIfInBounds_toArray, List.set_cons_succ, List.set_cons_zero]
    rfl
  refine RS.go1g (v := ?_) (a' := ?_) (by kernel_rfl) ?_ ?_ ?_
  rotate_left 2
  · intro K wx hS hK
    refine ld rfl rfl (hS.v (w.heap.size, P) (by simp)).c ?_
    exact hK _ hS
  · simp only [Act.put, List.setIfInBounds_toArray, List.set_cons_succ, List.set_cons_zero]
    rfl
  refine RS.go1g (v := ?_) (a' := ?_) (by kernel_rfl) ?_ ?_ ?_
  rotate_left 2
  · intro K wx hS hK
    refine ld rfl rfl (hS.v (w.heap.size + 1, Q) (by simp)).c ?_
    exact hK _ hS
  · simp only [Act.put, List.setIfInBounds_toArray, List.set_cons_succ, List.set_cons_zero]
    rfl
  refine RS.go1g (v := ?_) (a' := ?_) (by kernel_rfl) ?_ ?_ ?_
  rotate_left 2
  · intro K wx hS hK
    go_simp
    refine (KA.out wx).mono (fun e w2 he => ?_)
    refine ⟨_, he.1, ?_⟩
    exact hK _ (Mem_below hS he.2)
  · simp only [Act.put, List.setIfInBounds_toArray, List.set_cons_succ, List.set_cons_zero]
    rfl
  refine RS.go1g (v := ?_) (a' := ?_) (by kernel_rfl) ?_ ?_ ?_
  rotate_left 2
  · intro K wx hS hK
    go_simp
    exact hK _ hS
  · simp only [Act.put, List.setIfInBounds_toArray, List.set_cons_succ, List.set_cons_zero]
    rfl
  refine RS.go1g (v := ?_) (a' := ?_) (by kernel_rfl) ?_ ?_ ?_
  rotate_left 2
  · intro K wx hS hK
    refine ld rfl rfl (hS.v (w.heap.size + 1, Q) (by simp)).c ?_
    exact hK _ hS
  · simp only [Act.put, List.setIfInBounds_toArray, List.set_cons_succ, List.set_cons_zero]
    rfl
  refine RS.go1g (v := ?_) (a' := ?_) (by kernel_rfl) ?_ ?_ ?_
  rotate_left 2
  · intro K wx hS hK
    refine ld rfl rfl (hS.v (w.heap.size + 2, R) (by simp)).c ?_
    exact hK _ hS
  · simp only [Act.put, List.setIfInBounds_toArray, List.set_cons_succ, List.set_cons_zero]
    rfl
  refine RS.go1g (v := ?_) (a' := ?_) (by kernel_rfl) ?_ ?_ ?_
  rotate_left 2
  · intro K wx hS hK
    go_simp
    refine (KC.out wx).mono (fun e w2 he => ?_)
    refine ⟨_, he.1, ?_⟩
    exact hK _ (Mem_below hS he.2)
  · simp only [Act.put, List.setIfInBounds_toArray, List.set_cons_succ, List.set_cons_zero]
    rfl
  refine RS.go1g (v := ?_) (a' := ?_) (by kernel_rfl) ?_ ?_ ?_
  rotate_left 2
  · intro K wx hS hK
    go_simp
    exact hK _ hS
  · simp only [Act.put, List.setIfInBounds_toArray, List.set_cons_succ, List.set_cons_zero]
    rfl
  refine RS.go1g (v := ?_) (a' := ?_) (by kernel_rfl) ?_ ?_ ?_
  rotate_left 2
  · intro K wx hS hK
    go_simp
    exact hK _ hS
  · simp only [Act.put, List.setIfInBounds_toArray, List.set_cons_succ, List.set_cons_zero]
    rfl
  refine RS.go0 (a' := ?_) (by kernel_rfl) ?_ ?_
  rotate_left 1
  · simp only [Act.put, List.setIfInBounds_toArray, List.set_cons_succ, List.set_cons_zero]
    rfl
  refine RS.go0 (a' := ?_) (by kernel_rfl) ?_ ?_
  rotate_left 1
  · simp only [Act.put, List.setIfInBounds_toArray, List.set_cons_succ, List.set_cons_zero]
    rfl
  refine RS.go0 (a' := ?_) (by kernel_rfl) ?_ ?_
  rotate_left 1
  · simp only [Act.put, List.setIfInBounds_toArray, List.set_cons_succ, List.set_cons_zero]
    rfl
  refine RS.go0 (a' := ?_) (by kernel_rfl) ?_ ?_
  rotate_left 1
  · simp only [Act.put, List.setIfInBounds_toArray, List.set_cons_succ, List.set_cons_zero]
    rfl
  refine RS.go1g (v := ?_) (a' := ?_) (by kernel_rfl) ?_ ?_ ?_
  rotate_left 2
  · intro K wx hS hK
    go_simp
    exact hK _ hS
  · simp only [Act.put, List.setIfInBounds_toArray, List.set_cons_succ, List.set_cons_zero]
    rfl
  refine RS.go1 (v := ?_) (a' := ?_) rfl ?_ ?_ ?_
  rotate_left 2
  · intro K wx hS hK
    go_simp
    exact hK _ hS
  · simp only [Act.put, List.setIfInBounds_toArray, List.set_cons_succ, List.set_cons_zero]
    rfl
  refine RS.go_end ?_
  intro w9 m9
  clear m4
  go_upto_region 5 with fail
  refine RS.wp_region_one (Mem w [(w.heap.size + 2, R), (w.heap.size + 1, Q), (w.heap.size, P)]) (by kernel_rfl) (by kernel_rfl) (Mem_drew m9) ?_
  dsimp only [List.toList_toArray]
  refine RS.go1 (v := ?_) (a' := ?_) rfl ?_ ?_ ?_
  rotate_left 2
  · intro K wx hS hK
    refine ld rfl rfl (hS.v (w.heap.size, P) (by simp)).c ?_
    exact hK _ hS
  · simp only [Act.put, List.setIfInBounds_toArray, List.set_cons_succ, List.set_cons_zero]
    rfl
  refine RS.go1 (v := ?_) (a' := ?_) rfl ?_ ?_ ?_
  rotate_left 2
  · intro K wx hS hK
    refine ld rfl rfl (hS.v (w.heap.size + 1, Q) (by simp)).c ?_
    exact hK _ hS
  · simp only [Act.put, List.setIfInBounds_toArray, List.set_cons_succ, List.set_cons_zero]
    rfl
  refine RS.go1 (v := ?_) (a' := ?_) rfl ?_ ?_ ?_
  rotate_left 2
  · intro K wx hS hK
    go_simp
    refine (KJ.out wx).mono (fun e w2 he => ?_)
    refine ⟨_, he.1, ?_⟩
    exact hK _ (Mem_below hS he.2)
  · simp only [Act.put, List.setIfInBounds_toArray, List.set_cons_succ, List.set_cons_zero]
    rfl
  refine RS.go1 (v := ?_) (a' := ?_) rfl ?_ ?_ ?_
  rotate_left 2
  · intro K wx hS hK
    refine ld rfl rfl (hS.v (w.heap.size + 2, R) (by simp)).c ?_
    exact hK _ hS
  · simp only [Act.put, List.setIfInBounds_toArray, List.set_cons_succ, List.set_cons_zero]
    rfl
  refine RS.go1 (v := ?_) (a' := ?_) rfl ?_ ?_ ?_
  rotate_left 2
  · intro K wx hS hK
    go_simp
    refine (KX.out wx).mono (fun e w2 he => ?_)
    refine ⟨_, he.1, ?_⟩
    exact hK _ (Mem_below hS he.2)
  · simp only [Act.put, List.setIfInBounds_toArray, List.set_cons_succ, List.set_cons_zero]
    rfl
  refine RS.go1 (v := ?_) (a' := ?_) rfl ?_ ?_ ?_
  rotate_left 2
  · intro K wx hS hK
    refine ld rfl rfl (hS.v (w.heap.size, P) (by simp)).c ?_
    exact hK _ hS
  · simp only [Act.put, List.setIfInBounds_toArray, List.set_cons_succ, List.set_cons_zero]
    rfl
  refine RS.go1 (v := ?_) (a' := ?_) rfl ?_ ?_ ?_
  rotate_left 2
  · intro K wx hS hK
    refine ld rfl rfl (hS.v (w.heap.size + 2, R) (by simp)).c ?_
    exact hK _ hS
  · simp only [Act.put, List.setIfInBounds_toArray, List.set_cons_succ, List.set_cons_zero]
    rfl
  refine RS.go1 (v := ?_) (a' := ?_) rfl ?_ ?_ ?_
  rotate_left 2
  · intro K wx hS hK
    go_simp
    refine (KD.out wx).mono (fun e w2 he => ?_)
    refine ⟨_, he.1, ?_⟩
    exact hK _ (Mem_below hS he.2)
  · simp only [Act.put, List.setIfInBounds_toArray, List.set_cons_succ, List.set_cons_zero]
    rfl
  refine RS.go1 (v := ?_) (a' := ?_) rfl ?_ ?_ ?_
  rotate_left 2
  · intro K wx hS hK
    go_simp
    exact hK _ hS
  · simp only [Act.put, List.setIfInBounds_toArray, List.set_cons_succ, List.set_cons_zero]
    rfl
  refine RS.go0 (a' := ?_) (by kernel_rfl) ?_ ?_
  rotate_left 1
  · simp only [Act.put, List.setIfInBounds_toArray, List.set_cons_succ, List.set_cons_zero]
    rfl
  refine RS.go0 (a' := ?_) (by kernel_rfl) ?_ ?_
  rotate_left 1
  · simp only [Act.put, List.setIfInBounds_toArray, List.set_cons_succ, List.set_cons_zero]
    rfl
  refine RS.go0 (a' := ?_) (by kernel_rfl) ?_ ?_
  rotate_left 1
  · simp only [Act.put, List.setIfInBounds_toArray, List.set_cons_succ, List.set_cons_zero]
    rfl
  refine RS.go1 (v := ?_) (a' := ?_) rfl ?_ ?_ ?_
  rotate_left 2
  · intro K wx hS hK
    go_simp
    exact hK _ hS
  · simp only [Act.put, List.setIfInBounds_toArray, List.set_cons_succ, List.set_cons_zero]
    rfl
  refine RS.go1 (v := ?_) (a' := ?_) rfl ?_ ?_ ?_
  rotate_left 2
  · intro K wx hS hK
    go_simp
    exact hK _ hS
  · simp only [Act.put, List.setIfInBounds_toArray, List.set_cons_succ, List.set_cons_zero]
    rfl
  refine RS.go1 (v := ?_) (a' := ?_) rfl ?_ ?_ ?_
  rotate_left 2
  · intro K wx hS hK
    go_simp
    exact hK _ hS
  · simp only [Act.put, List.setIfInBounds_toArray, List.set_cons_succ, List.set_cons_zero]
    rfl
  refine RS.go_end ?_
  intro w8 m8
  have b8 := m8.b
  clear m8 m9
  go_wp2_with fail
  go_ret
  exact ⟨by simp, b8⟩
set_option maxHeartbeats 2000000 in
set_option maxRecDepth 100000 in
theorem law_within_g (P Q R : Nat → Bool) (w : World) (ha : wi P Q = true) (hb : wi Q P = true) (hc : wi Q R = false) (hd : wi P R = true) :
    Calls Try.prog 6 #[Hv (FB P), Hv (FB Q), Hv (FB R)] w fun e w' => e = .returned (.bool true) ∧ Below w.heap.size w w' := by
  have KP : Hid (∀ w : World, Calls Try.prog 11 #[Hv (FB P), Hv (FB P)] w fun e w' => e = .returned (.bool true) ∧ Below w.heap.size w w') := fun w => by have := within_any P P w; rwa [wi_self] at this
  have KA : Hid (∀ w : World, Calls Try.prog 11 #[Hv (FB P), Hv (FB Q)] w fun e w' => e = .returned (.bool true) ∧ Below w.heap.size w w') := fun w => by have := within_any P Q w; rwa [ha] at this
  have KB : Hid (∀ w : World, Calls Try.prog 11 #[Hv (FB Q), Hv (FB P)] w fun e w' => e = .returned (.bool true) ∧ Below w.heap.size w w') := fun w => by have := within_any Q P w; rwa [hb] at this
  have KC : Hid (∀ w : World, Calls Try.prog 11 #[Hv (FB Q), Hv (FB R)] w fun e w' => e = .returned (.bool false) ∧ Below w.heap.size w w') := fun w => by have := within_any Q R w; rwa [hc] at this
  have KD : Hid (∀ w : World, Calls Try.prog 11 #[Hv (FB P), Hv (FB R)] w fun e w' => e = .returned (.bool true) ∧ Below w.heap.size w w') := fun w => by have := within_any P R w; rwa [hd] at this
  have KJ : Hid (∀ w : World, Calls Try.prog 9 #[Hv (FB P), Hv (FB Q)] w fun e w' => e = .returned (Hv (FB (jn P Q))) ∧ Below w.heap.size w w') := fun w => join_any P Q w
  have KX : Hid (∀ w : World, Calls Try.prog 11 #[Hv (FB (jn P Q)), Hv (FB R)] w fun e w' => e = .returned (.bool false) ∧ Below w.heap.size w w') := fun w => by have := within_any (jn P Q) R w; rw [wi_jn, hc, hd] at this; exact this
  have EQ : Hid (same 32 (FB P) (FB Q) = true) := wi_anti ha hb
  clear ha hc hd hb
  go_enter Try.func6, Try.ntmps6
  go_upto_region 1 with fail
  dsimp only [Hv]
  have m0 := Mem_nil w
  have m1 := Mem_box m0 (P) 24
  have z1 : (w.alloc (.cells (h32 (FB (P))).toArray 24)).heap.size = w.heap.size + 1 := by simp
  generalize w.alloc (.cells (h32 (FB (P))).toArray 24) = W1 at m1 z1 ⊢
  have m2 := Mem_box m1 (Q) 24
  have z2 : (W1.alloc (.cells (h32 (FB (Q))).toArray 24)).heap.size = w.heap.size + 2 := by simp [z1]
  rw [z1] at m2
  generalize W1.alloc (.cells (h32 (FB (Q))).toArray 24) = W2 at m2 z2 ⊢
  have m3 := Mem_box m2 (R) 24
  have z3 : (W2.alloc (.cells (h32 (FB (R))).toArray 24)).heap.size = w.heap.size + 3 := by simp [z2]
  rw [z2] at m3
  generalize W2.alloc (.cells (h32 (FB (R))).toArray 24) = W3 at m3 z3 ⊢
  generalize (h32 (FB (P))).toArray = c0
  generalize (h32 (FB (Q))).toArray = c1
  generalize (h32 (FB (R))).toArray = c2
  clear m1 z1 m2 z2 m0 z3
  go_wp2_with fail
  refine (alive10_any _).mono ?_
  rintro e w1 ⟨rfl, hb1⟩
  have m4 := Mem_below m3 hb1
  clear m3 hb1
  go_upto_region 3 with fail
  refine RS.wp_region_flat (Mem w [(w.heap.size + 2, R), (w.heap.size + 1, Q), (w.heap.size, P)]) 35 (by kernel_rfl) (m4) ?_
  simp only [List.take_succ_cons, List.take_zero, List.drop_succ_cons, List.drop_zero]
  refine RS.go1 (v := ?_) (a' := ?_) rfl ?_ ?_ ?_
  rotate_left 2
  · intro K wx hS hK
    refine ld rfl rfl (hS.v (w.heap.size, P) (by simp)).c ?_
    exact hK _ hS
  · simp only [Act.put, List.setIfInBounds_toArray, List.set_cons_succ, List.set_cons_zero]
    rfl
  refine RS.go1 (v := ?_) (a' := ?_) rfl ?_ ?_ ?_
  rotate_left 2
  · intro K wx hS hK
    refine ld rfl rfl (hS.v (w.heap.size, P) (by simp)).c ?_
    exact hK _ hS
  · simp only [Act.put, List.setIfInBounds_toArray, List.set_cons_succ, List.set_cons_zero]
    rfl
  refine RS.go1 (v := ?_) (a' := ?_) rfl ?_ ?_ ?_
  rotate_left 2
  · intro K wx hS hK
    go_simp
    refine (KP.out wx).mono (fun e w2 he => ?_)
    refine ⟨_, he.1, ?_⟩
    exact hK _ (Mem_below hS he.2)
  · simp only [Act.put, List.setIfInBounds_toArray, List.set_cons_succ, List.set_cons_zero]
    rfl
  refine RS.go1 (v := ?_) (a' := ?_) rfl ?_ ?_ ?_
  rotate_left 2
  · intro K wx hS hK
    go_simp
    exact hK _ hS
  · simp only [Act.put, List.setIfInBounds_toArray, List.set_cons_succ, List.set_cons_zero]
    rfl
  refine RS.go1 (v := ?_) (a' := ?_) rfl ?_ ?_ ?_
  rotate_left 2
  · intro K wx hS hK
    go_simp
    exact hK _ hS
  · simp only [Act.put, List.setIfInBounds_toArray, List.set_cons_succ, List.set_cons_zero]
    rfl
  refine RS.go1g (v := ?_) (a' := ?_) (by kernel_rfl) ?_ ?_ ?_
  rotate_left 2
  · intro K wx hS hK
    refine ld rfl rfl (hS.v (w.heap.size, P) (by simp)).c ?_
    exact hK _ hS
  · simp only [Act.put, List.setIfInBounds_toArray, List.set_cons_succ, List.set_cons_zero]
    rfl
  refine RS.go1g (v := ?_) (a' := ?_) (by kernel_rfl) ?_ ?_ ?_
  rotate_left 2
  · intro K wx hS hK
    refine ld rfl rfl (hS.v (w.heap.size + 1, Q) (by simp)).c ?_
    exact hK _ hS
  · simp only [Act.put, List.setIfInBounds_toArray, List.set_cons_succ, List.set_cons_zero]
    rfl
  refine RS.go1g (v := ?_) (a' := ?_) (by kernel_rfl) ?_ ?_ ?_
  rotate_left 2
  · intro K wx hS hK
    go_simp
    refine (KA.out wx).mono (fun e w2 he => ?_)
    refine ⟨_, he.1, ?_⟩
    exact hK _ (Mem_below hS he.2)
  · simp only [Act.put, List.setIfInBounds_toArray, List.set_cons_succ, List.set_cons_zero]
    rfl
  refine RS.go1g (v := ?_) (a' := ?_) (by kernel_rfl) ?_ ?_ ?_
  rotate_left 2
  · intro K wx hS hK
    go_simp
    exact hK _ hS
  · simp only [Act.put, List.setIfInBounds_toArray, List.set_cons_succ, List.set_cons_zero]
    rfl
  refine RS.go1g (v := ?_) (a' := ?_) (by kernel_rfl) ?_ ?_ ?_
  rotate_left 2
  · intro K wx hS hK
    refine ld rfl rfl (hS.v (w.heap.size + 1, Q) (by simp)).c ?_
    exact hK _ hS
  · simp only [Act.put, List.setIfInBounds_toArray, List.set_cons_succ, List.set_cons_zero]
    rfl
  refine RS.go1g (v := ?_) (a' := ?_) (by kernel_rfl) ?_ ?_ ?_
  rotate_left 2
  · intro K wx hS hK
    refine ld rfl rfl (hS.v (w.heap.size, P) (by simp)).c ?_
    exact hK _ hS
  · simp only [Act.put, List.setIfInBounds_toArray, List.set_cons_succ, List.set_cons_zero]
    rfl
  refine RS.go1g (v := ?_) (a' := ?_) (by kernel_rfl) ?_ ?_ ?_
  rotate_left 2
  · intro K wx hS hK
    go_simp
    refine (KB.out wx).mono (fun e w2 he => ?_)
    refine ⟨_, he.1, ?_⟩
    exact hK _ (Mem_below hS he.2)
  · simp only [Act.put, List.setIfInBounds_toArray, List.set_cons_succ, List.set_cons_zero]
    rfl
  refine RS.go1g (v := ?_) (a' := ?_) (by kernel_rfl) ?_ ?_ ?_
  rotate_left 2
  · intro K wx hS hK
    go_simp
    exact hK _ hS
  · simp only [Act.put, List.setIfInBounds_toArray, List.set_cons_succ, List.set_cons_zero]
    rfl
  refine RS.go1g (v := ?_) (a' := ?_) (by kernel_rfl) ?_ ?_ ?_
  rotate_left 2
  · intro K wx hS hK
    go_simp
    exact hK _ hS
  · simp only [Act.put, List.setIfInBounds_toArray, List.set_cons_succ, List.set_cons_zero]
    rfl
  refine RS.go1g (v := ?_) (a' := ?_) (by kernel_rfl) ?_ ?_ ?_
  rotate_left 2
  · intro K wx hS hK
    refine ld rfl rfl (hS.v (w.heap.size, P) (by simp)).c ?_
    exact hK _ hS
  · simp only [Act.put, List.setIfInBounds_toArray, List.set_cons_succ, List.set_cons_zero]
    rfl
  refine RS.go1g (v := ?_) (a' := ?_) (by kernel_rfl) ?_ ?_ ?_
  rotate_left 2
  · intro K wx hS hK
    refine ld rfl rfl (hS.v (w.heap.size + 1, Q) (by simp)).c ?_
    exact hK _ hS
  · simp only [Act.put, List.setIfInBounds_toArray, List.set_cons_succ, List.set_cons_zero]
    rfl
  refine RS.go1g (v := ?_) (a' := ?_) (by kernel_rfl) ?_ ?_ ?_
  rotate_left 2
  · intro K wx hS hK
    refine neq (b := false) rfl rfl rfl (by rw [EQ.out]; rfl) ?_
    exact hK _ hS
  · simp only [Act.put, List.setIfInBounds_toArray, List.set_cons_succ, List.set_cons_zero]
    rfl
  refine RS.go1g (v := ?_) (a' := ?_) (by kernel_rfl) ?_ ?_ ?_
  rotate_left 2
  · intro K wx hS hK
    go_simp
    exact hK _ hS
  · simp only [Act.put, List.setIfInBounds_toArray, List.set_cons_succ, List.set_cons_zero]
    rfl
  refine RS.go1 (v := ?_) (a' := ?_) rfl ?_ ?_ ?_
  rotate_left 2
  · intro K wx hS hK
    go_simp
    exact hK _ hS
  · simp only [Act.put, List.setIfInBounds_toArray, List.set_cons_succ, List.set_cons_zero]
    rfl
  refine RS.go1 (v := ?_) (a' := ?_) rfl ?_ ?_ ?_
  rotate_left 2
  · intro K wx hS hK
    go_simp
    exact hK _ hS
  · simp only [Act.put, List.setIfInBounds_toArray, List.set_cons_succ, List.set_cons_zero]
    rfl
  refine RS.go1g (v := ?_) (a' := ?_) (by kernel_rfl) ?_ ?_ ?_
  rotate_left 2
  · intro K wx hS hK
    refine ld rfl rfl (hS.v (w.heap.size, P) (by simp)).c ?_
    exact hK _ hS
  · simp only [Act.put, List.setIfInBounds_toArray, List.set_cons_succ, List.set_cons_zero]
    rfl
  refine RS.go1g (v := ?_) (a' := ?_) (by kernel_rfl) ?_ ?_ ?_
  rotate_left 2
  · intro K wx hS hK
    refine ld rfl rfl (hS.v (w.heap.size + 1, Q) (by simp)).c ?_
    exact hK _ hS
  · simp only [Act.put, List.setIfInBounds_toArray, List.set_cons_succ, List.set_cons_zero]
    rfl
  refine RS.go1g (v := ?_) (a' := ?_) (by kernel_rfl) ?_ ?_ ?_
  rotate_left 2
  · intro K wx hS hK
    go_simp
    refine (KA.out wx).mono (fun e w2 he => ?_)
    refine ⟨_, he.1, ?_⟩
    exact hK _ (Mem_below hS he.2)
  · simp only [Act.put, List.setIfInBounds_toArray, List.set_cons_succ, List.set_cons_zero]
    rfl
  refine RS.go1g (v := ?_) (a' := ?_) (by kernel_rfl) ?_ ?_ ?_
  rotate_left 2
  · intro K wx hS hK
    go_simp
    exact hK _ hS
  · simp only [Act.put, List.setIfInBounds_toArray, List.set_cons_succ, List.set_cons_zero]
    rfl
  refine RS.go1g (v := ?_) (a' := ?_) (by kernel_rfl) ?_ ?_ ?_
  rotate_left 2
  · intro K wx hS hK
    refine ld rfl rfl (hS.v (w.heap.size + 1, Q) (by simp)).c ?_
    exact hK _ hS
  · simp only [Act.put, List.setIfInBounds_toArray, List.set_cons_succ, List.set_cons_zero]
    rfl
  refine RS.go1g (v := ?_) (a' := ?_) (by kernel_rfl) ?_ ?_ ?_
  rotate_left 2
  · intro K wx hS hK
    refine ld rfl rfl (hS.v (w.heap.size + 2, R) (by simp)).c ?_
    exact hK _ hS
  · simp only [Act.put, List.setIfInBounds_toArray, List.set_cons_succ, List.set_cons_zero]
    rfl
  refine RS.go1g (v := ?_) (a' := ?_) (by kernel_rfl) ?_ ?_ ?_
  rotate_left 2
  · intro K wx hS hK
    go_simp
    refine (KC.out wx).mono (fun e w2 he => ?_)
    refine ⟨_, he.1, ?_⟩
    exact hK _ (Mem_below hS he.2)
  · simp only [Act.put, List.setIfInBounds_toArray, List.set_cons_succ, List.set_cons_zero]
    rfl
  refine RS.go1g (v := ?_) (a' := ?_) (by kernel_rfl) ?_ ?_ ?_
  rotate_left 2
  · intro K wx hS hK
    go_simp
    exact hK _ hS
  · simp only [Act.put, List.setIfInBounds_toArray, List.set_cons_succ, List.set_cons_zero]
    rfl
  refine RS.go1g (v := ?_) (a' := ?_) (by kernel_rfl) ?_ ?_ ?_
  rotate_left 2
  · intro K wx hS hK
    go_simp
    exact hK _ hS
  · simp only [Act.put, List.setIfInBounds_toArray, List.set_cons_succ, List.set_cons_zero]
    rfl
  refine RS.go0 (a' := ?_) (by kernel_rfl) ?_ ?_
  rotate_left 1
  · simp only [Act.put, List.setIfInBounds_toArray, List.set_cons_succ, List.set_cons_zero]
    rfl
  refine RS.go0 (a' := ?_) (by kernel_rfl) ?_ ?_
  rotate_left 1
  · simp only [Act.put, List.setIfInBounds_toArray, List.set_cons_succ, List.set_cons_zero]
    rfl
  refine RS.go0 (a' := ?_) (by kernel_rfl) ?_ ?_
  rotate_left 1
  · simp only [Act.put, List.setIfInBounds_toArray, List.set_cons_succ, List.set_cons_zero]
    rfl
  refine RS.go0 (a' := ?_) (by kernel_rfl) ?_ ?_
  rotate_left 1
  · simp only [Act.put, List.setIfInBounds_toArray, List.set_cons_succ, List.set_cons_zero]
    rfl
  refine RS.go1g (v := ?_) (a' := ?_) (by kernel_rfl) ?_ ?_ ?_
  rotate_left 2
  · intro K wx hS hK
    go_simp
    exact hK _ hS
  · simp only [Act.put, List.setIfInBounds_toArray, List.set_cons_succ, List.set_cons_zero]
    rfl
  refine RS.go1 (v := ?_) (a' := ?_) rfl ?_ ?_ ?_
  rotate_left 2
  · intro K wx hS hK
    go_simp
    exact hK _ hS
  · simp only [Act.put, List.setIfInBounds_toArray, List.set_cons_succ, List.set_cons_zero]
    rfl
  refine RS.go_end ?_
  intro w9 m9
  clear m4
  go_upto_region 5 with fail
  refine RS.wp_region_one (Mem w [(w.heap.size + 2, R), (w.heap.size + 1, Q), (w.heap.size, P)]) (by kernel_rfl) (by kernel_rfl) (Mem_drew m9) ?_
  dsimp only [List.toList_toArray]
  refine RS.go1 (v := ?_) (a' := ?_) rfl ?_ ?_ ?_
  rotate_left 2
  · intro K wx hS hK
    refine ld rfl rfl (hS.v (w.heap.size, P) (by simp)).c ?_
    exact hK _ hS
  · simp only [Act.put, List.setIfInBounds_toArray, List.set_cons_succ, List.set_cons_zero]
    rfl
  refine RS.go1 (v := ?_) (a' := ?_) rfl ?_ ?_ ?_
  rotate_left 2
  · intro K wx hS hK
    refine ld rfl rfl (hS.v (w.heap.size + 1, Q) (by simp)).c ?_
    exact hK _ hS
  · simp only [Act.put, List.setIfInBounds_toArray, List.set_cons_succ, List.set_cons_zero]
    rfl
  refine RS.go1 (v := ?_) (a' := ?_) rfl ?_ ?_ ?_
  rotate_left 2
  · intro K wx hS hK
    go_simp
    refine (KJ.out wx).mono (fun e w2 he => ?_)
    refine ⟨_, he.1, ?_⟩
    exact hK _ (Mem_below hS he.2)
  · simp only [Act.put, List.setIfInBounds_toArray, List.set_cons_succ, List.set_cons_zero]
    rfl
  refine RS.go1 (v := ?_) (a' := ?_) rfl ?_ ?_ ?_
  rotate_left 2
  · intro K wx hS hK
    refine ld rfl rfl (hS.v (w.heap.size + 2, R) (by simp)).c ?_
    exact hK _ hS
  · simp only [Act.put, List.setIfInBounds_toArray, List.set_cons_succ, List.set_cons_zero]
    rfl
  refine RS.go1 (v := ?_) (a' := ?_) rfl ?_ ?_ ?_
  rotate_left 2
  · intro K wx hS hK
    go_simp
    refine (KX.out wx).mono (fun e w2 he => ?_)
    refine ⟨_, he.1, ?_⟩
    exact hK _ (Mem_below hS he.2)
  · simp only [Act.put, List.setIfInBounds_toArray, List.set_cons_succ, List.set_cons_zero]
    rfl
  refine RS.go1 (v := ?_) (a' := ?_) rfl ?_ ?_ ?_
  rotate_left 2
  · intro K wx hS hK
    refine ld rfl rfl (hS.v (w.heap.size, P) (by simp)).c ?_
    exact hK _ hS
  · simp only [Act.put, List.setIfInBounds_toArray, List.set_cons_succ, List.set_cons_zero]
    rfl
  refine RS.go1 (v := ?_) (a' := ?_) rfl ?_ ?_ ?_
  rotate_left 2
  · intro K wx hS hK
    refine ld rfl rfl (hS.v (w.heap.size + 2, R) (by simp)).c ?_
    exact hK _ hS
  · simp only [Act.put, List.setIfInBounds_toArray, List.set_cons_succ, List.set_cons_zero]
    rfl
  refine RS.go1 (v := ?_) (a' := ?_) rfl ?_ ?_ ?_
  rotate_left 2
  · intro K wx hS hK
    go_simp
    refine (KD.out wx).mono (fun e w2 he => ?_)
    refine ⟨_, he.1, ?_⟩
    exact hK _ (Mem_below hS he.2)
  · simp only [Act.put, List.setIfInBounds_toArray, List.set_cons_succ, List.set_cons_zero]
    rfl
  refine RS.go1 (v := ?_) (a' := ?_) rfl ?_ ?_ ?_
  rotate_left 2
  · intro K wx hS hK
    go_simp
    exact hK _ hS
  · simp only [Act.put, List.setIfInBounds_toArray, List.set_cons_succ, List.set_cons_zero]
    rfl
  refine RS.go1g (v := ?_) (a' := ?_) (by kernel_rfl) ?_ ?_ ?_
  rotate_left 2
  · intro K wx hS hK
    refine ld rfl rfl (hS.v (w.heap.size + 1, Q) (by simp)).c ?_
    exact hK _ hS
  · simp only [Act.put, List.setIfInBounds_toArray, List.set_cons_succ, List.set_cons_zero]
    rfl
  refine RS.go1g (v := ?_) (a' := ?_) (by kernel_rfl) ?_ ?_ ?_
  rotate_left 2
  · intro K wx hS hK
    refine ld rfl rfl (hS.v (w.heap.size + 2, R) (by simp)).c ?_
    exact hK _ hS
  · simp only [Act.put, List.setIfInBounds_toArray, List.set_cons_succ, List.set_cons_zero]
    rfl
  refine RS.go1g (v := ?_) (a' := ?_) (by kernel_rfl) ?_ ?_ ?_
  rotate_left 2
  · intro K wx hS hK
    go_simp
    refine (KC.out wx).mono (fun e w2 he => ?_)
    refine ⟨_, he.1, ?_⟩
    exact hK _ (Mem_below hS he.2)
  · simp only [Act.put, List.setIfInBounds_toArray, List.set_cons_succ, List.set_cons_zero]
    rfl
  refine RS.go1 (v := ?_) (a' := ?_) rfl ?_ ?_ ?_
  rotate_left 2
  · intro K wx hS hK
    go_simp
    exact hK _ hS
  · simp only [Act.put, List.setIfInBounds_toArray, List.set_cons_succ, List.set_cons_zero]
    rfl
  refine RS.go1 (v := ?_) (a' := ?_) rfl ?_ ?_ ?_
  rotate_left 2
  · intro K wx hS hK
    go_simp
    exact hK _ hS
  · simp only [Act.put, List.setIfInBounds_toArray, List.set_cons_succ, List.set_cons_zero]
    rfl
  refine RS.go1 (v := ?_) (a' := ?_) rfl ?_ ?_ ?_
  rotate_left 2
  · intro K wx hS hK
    go_simp
    exact hK _ hS
  · simp only [Act.put, List.setIfInBounds_toArray, List.set_cons_succ, List.set_cons_zero]
    rfl
  refine RS.go_end ?_
  intro w8 m8
  have b8 := m8.b
  clear m8 m9
  go_wp2_with fail
  go_ret
  exact ⟨by simp, b8⟩
set_option maxHeartbeats 2000000 in
set_option maxRecDepth 100000 in
theorem law_within_h (P Q R : Nat → Bool) (w : World) (ha : wi P Q = true) (hb : wi Q P = true) (hc : wi Q R = true) (hd : wi P R = true) :
    Calls Try.prog 6 #[Hv (FB P), Hv (FB Q), Hv (FB R)] w fun e w' => e = .returned (.bool true) ∧ Below w.heap.size w w' := by
  have KP : Hid (∀ w : World, Calls Try.prog 11 #[Hv (FB P), Hv (FB P)] w fun e w' => e = .returned (.bool true) ∧ Below w.heap.size w w') := fun w => by have := within_any P P w; rwa [wi_self] at this
  have KA : Hid (∀ w : World, Calls Try.prog 11 #[Hv (FB P), Hv (FB Q)] w fun e w' => e = .returned (.bool true) ∧ Below w.heap.size w w') := fun w => by have := within_any P Q w; rwa [ha] at this
  have KB : Hid (∀ w : World, Calls Try.prog 11 #[Hv (FB Q), Hv (FB P)] w fun e w' => e = .returned (.bool true) ∧ Below w.heap.size w w') := fun w => by have := within_any Q P w; rwa [hb] at this
  have KC : Hid (∀ w : World, Calls Try.prog 11 #[Hv (FB Q), Hv (FB R)] w fun e w' => e = .returned (.bool true) ∧ Below w.heap.size w w') := fun w => by have := within_any Q R w; rwa [hc] at this
  have KD : Hid (∀ w : World, Calls Try.prog 11 #[Hv (FB P), Hv (FB R)] w fun e w' => e = .returned (.bool true) ∧ Below w.heap.size w w') := fun w => by have := within_any P R w; rwa [hd] at this
  have KJ : Hid (∀ w : World, Calls Try.prog 9 #[Hv (FB P), Hv (FB Q)] w fun e w' => e = .returned (Hv (FB (jn P Q))) ∧ Below w.heap.size w w') := fun w => join_any P Q w
  have KX : Hid (∀ w : World, Calls Try.prog 11 #[Hv (FB (jn P Q)), Hv (FB R)] w fun e w' => e = .returned (.bool true) ∧ Below w.heap.size w w') := fun w => by have := within_any (jn P Q) R w; rw [wi_jn, hc, hd] at this; exact this
  have EQ : Hid (same 32 (FB P) (FB Q) = true) := wi_anti ha hb
  clear ha hc hd hb
  go_enter Try.func6, Try.ntmps6
  go_upto_region 1 with fail
  dsimp only [Hv]
  have m0 := Mem_nil w
  have m1 := Mem_box m0 (P) 24
  have z1 : (w.alloc (.cells (h32 (FB (P))).toArray 24)).heap.size = w.heap.size + 1 := by simp
  generalize w.alloc (.cells (h32 (FB (P))).toArray 24) = W1 at m1 z1 ⊢
  have m2 := Mem_box m1 (Q) 24
  have z2 : (W1.alloc (.cells (h32 (FB (Q))).toArray 24)).heap.size = w.heap.size + 2 := by simp [z1]
  rw [z1] at m2
  generalize W1.alloc (.cells (h32 (FB (Q))).toArray 24) = W2 at m2 z2 ⊢
  have m3 := Mem_box m2 (R) 24
  have z3 : (W2.alloc (.cells (h32 (FB (R))).toArray 24)).heap.size = w.heap.size + 3 := by simp [z2]
  rw [z2] at m3
  generalize W2.alloc (.cells (h32 (FB (R))).toArray 24) = W3 at m3 z3 ⊢
  generalize (h32 (FB (P))).toArray = c0
  generalize (h32 (FB (Q))).toArray = c1
  generalize (h32 (FB (R))).toArray = c2
  clear m1 z1 m2 z2 m0 z3
  go_wp2_with fail
  refine (alive10_any _).mono ?_
  rintro e w1 ⟨rfl, hb1⟩
  have m4 := Mem_below m3 hb1
  clear m3 hb1
  go_upto_region 3 with fail
  refine RS.wp_region_flat (Mem w [(w.heap.size + 2, R), (w.heap.size + 1, Q), (w.heap.size, P)]) 35 (by kernel_rfl) (m4) ?_
  simp only [List.take_succ_cons, List.take_zero, List.drop_succ_cons, List.drop_zero]
  refine RS.go1 (v := ?_) (a' := ?_) rfl ?_ ?_ ?_
  rotate_left 2
  · intro K wx hS hK
    refine ld rfl rfl (hS.v (w.heap.size, P) (by simp)).c ?_
    exact hK _ hS
  · simp only [Act.put, List.setIfInBounds_toArray, List.set_cons_succ, List.set_cons_zero]
    rfl
  refine RS.go1 (v := ?_) (a' := ?_) rfl ?_ ?_ ?_
  rotate_left 2
  · intro K wx hS hK
    refine ld rfl rfl (hS.v (w.heap.size, P) (by simp)).c ?_
    exact hK _ hS
  · simp only [Act.put, List.setIfInBounds_toArray, List.set_cons_succ, List.set_cons_zero]
    rfl
  refine RS.go1 (v := ?_) (a' := ?_) rfl ?_ ?_ ?_
  rotate_left 2
  · intro K wx hS hK
    go_simp
    refine (KP.out wx).mono (fun e w2 he => ?_)
    refine ⟨_, he.1, ?_⟩
    exact hK _ (Mem_below hS he.2)
  · simp only [Act.put, List.setIfInBounds_toArray, List.set_cons_succ, List.set_cons_zero]
    rfl
  refine RS.go1 (v := ?_) (a' := ?_) rfl ?_ ?_ ?_
  rotate_left 2
  · intro K wx hS hK
    go_simp
    exact hK _ hS
  · simp only [Act.put, List.setIfInBounds_toArray, List.set_cons_succ, List.set_cons_zero]
    rfl
  refine RS.go1 (v := ?_) (a' := ?_) rfl ?_ ?_ ?_
  rotate_left 2
  · intro K wx hS hK
    go_simp
    exact hK _ hS
  · simp only [Act.put, List.setIfInBounds_toArray, List.set_cons_succ, List.set_cons_zero]
    rfl
  refine RS.go1g (v := ?_) (a' := ?_) (by kernel_rfl) ?_ ?_ ?_
  rotate_left 2
  · intro K wx hS hK
    refine ld rfl rfl (hS.v (w.heap.size, P) (by simp)).c ?_
    exact hK _ hS
  · simp only [Act.put, List.setIfInBounds_toArray, List.set_cons_succ, List.set_cons_zero]
    rfl
  refine RS.go1g (v := ?_) (a' := ?_) (by kernel_rfl) ?_ ?_ ?_
  rotate_left 2
  · intro K wx hS hK
    refine ld rfl rfl (hS.v (w.heap.size + 1, Q) (by simp)).c ?_
    exact hK _ hS
  · simp only [Act.put, List.setIfInBounds_toArray, List.set_cons_succ, List.set_cons_zero]
    rfl
  refine RS.go1g (v := ?_) (a' := ?_) (by kernel_rfl) ?_ ?_ ?_
  rotate_left 2
  · intro K wx hS hK
    go_simp
    refine (KA.out wx).mono (fun e w2 he => ?_)
    refine ⟨_, he.1, ?_⟩
    exact hK _ (Mem_below hS he.2)
  · simp only [Act.put, List.setIfInBounds_toArray, List.set_cons_succ, List.set_cons_zero]
    rfl
  refine RS.go1g (v := ?_) (a' := ?_) (by kernel_rfl) ?_ ?_ ?_
  rotate_left 2
  · intro K wx hS hK
    go_simp
    exact hK _ hS
  · simp only [Act.put, List.setIfInBounds_toArray, List.set_cons_succ, List.set_cons_zero]
    rfl
  refine RS.go1g (v := ?_) (a' := ?_) (by kernel_rfl) ?_ ?_ ?_
  rotate_left 2
  · intro K wx hS hK
    refine ld rfl rfl (hS.v (w.heap.size + 1, Q) (by simp)).c ?_
    exact hK _ hS
  · simp only [Act.put, List.setIfInBounds_toArray, List.set_cons_succ, List.set_cons_zero]
    rfl
  refine RS.go1g (v := ?_) (a' := ?_) (by kernel_rfl) ?_ ?_ ?_
  rotate_left 2
  · intro K wx hS hK
    refine ld rfl rfl (hS.v (w.heap.size, P) (by simp)).c ?_
    exact hK _ hS
  · simp only [Act.put, List.setIfInBounds_toArray, List.set_cons_succ, List.set_cons_zero]
    rfl
  refine RS.go1g (v := ?_) (a' := ?_) (by kernel_rfl) ?_ ?_ ?_
  rotate_left 2
  · intro K wx hS hK
    go_simp
    refine (KB.out wx).mono (fun e w2 he => ?_)
    refine ⟨_, he.1, ?_⟩
    exact hK _ (Mem_below hS he.2)
  · simp only [Act.put, List.setIfInBounds_toArray, List.set_cons_succ, List.set_cons_zero]
    rfl
  refine RS.go1g (v := ?_) (a' := ?_) (by kernel_rfl) ?_ ?_ ?_
  rotate_left 2
  · intro K wx hS hK
    go_simp
    exact hK _ hS
  · simp only [Act.put, List.setIfInBounds_toArray, List.set_cons_succ, List.set_cons_zero]
    rfl
  refine RS.go1g (v := ?_) (a' := ?_) (by kernel_rfl) ?_ ?_ ?_
  rotate_left 2
  · intro K wx hS hK
    go_simp
    exact hK _ hS
  · simp only [Act.put, List.setIfInBounds_toArray, List.set_cons_succ, List.set_cons_zero]
    rfl
  refine RS.go1g (v := ?_) (a' := ?_) (by kernel_rfl) ?_ ?_ ?_
  rotate_left 2
  · intro K wx hS hK
    refine ld rfl rfl (hS.v (w.heap.size, P) (by simp)).c ?_
    exact hK _ hS
  · simp only [Act.put, List.setIfInBounds_toArray, List.set_cons_succ, List.set_cons_zero]
    rfl
  refine RS.go1g (v := ?_) (a' := ?_) (by kernel_rfl) ?_ ?_ ?_
  rotate_left 2
  · intro K wx hS hK
    refine ld rfl rfl (hS.v (w.heap.size + 1, Q) (by simp)).c ?_
    exact hK _ hS
  · simp only [Act.put, List.setIfInBounds_toArray, List.set_cons_succ, List.set_cons_zero]
    rfl
  refine RS.go1g (v := ?_) (a' := ?_) (by kernel_rfl) ?_ ?_ ?_
  rotate_left 2
  · intro K wx hS hK
    refine neq (b := false) rfl rfl rfl (by rw [EQ.out]; rfl) ?_
    exact hK _ hS
  · simp only [Act.put, List.setIfInBounds_toArray, List.set_cons_succ, List.set_cons_zero]
    rfl
  refine RS.go1g (v := ?_) (a' := ?_) (by kernel_rfl) ?_ ?_ ?_
  rotate_left 2
  · intro K wx hS hK
    go_simp
    exact hK _ hS
  · simp only [Act.put, List.setIfInBounds_toArray, List.set_cons_succ, List.set_cons_zero]
    rfl
  refine RS.go1 (v := ?_) (a' := ?_) rfl ?_ ?_ ?_
  rotate_left 2
  · intro K wx hS hK
    go_simp
    exact hK _ hS
  · simp only [Act.put, List.setIfInBounds_toArray, List.set_cons_succ, List.set_cons_zero]
    rfl
  refine RS.go1 (v := ?_) (a' := ?_) rfl ?_ ?_ ?_
  rotate_left 2
  · intro K wx hS hK
    go_simp
    exact hK _ hS
  · simp only [Act.put, List.setIfInBounds_toArray, List.set_cons_succ, List.set_cons_zero]
    rfl
  refine RS.go1g (v := ?_) (a' := ?_) (by kernel_rfl) ?_ ?_ ?_
  rotate_left 2
  · intro K wx hS hK
    refine ld rfl rfl (hS.v (w.heap.size, P) (by simp)).c ?_
    exact hK _ hS
  · simp only [Act.put, List.setIfInBounds_toArray, List.set_cons_succ, List.set_cons_zero]
    rfl
  refine RS.go1g (v := ?_) (a' := ?_) (by kernel_rfl) ?_ ?_ ?_
  rotate_left 2
  · intro K wx hS hK
    refine ld rfl rfl (hS.v (w.heap.size + 1, Q) (by simp)).c ?_
    exact hK _ hS
  · simp only [Act.put, List.setIfInBounds_toArray, List.set_cons_succ, List.set_cons_zero]
    rfl
  refine RS.go1g (v := ?_) (a' := ?_) (by kernel_rfl) ?_ ?_ ?_
  rotate_left 2
  · intro K wx hS hK
    go_simp
    refine (KA.out wx).mono (fun e w2 he => ?_)
    refine ⟨_, he.1, ?_⟩
    exact hK _ (Mem_below hS he.2)
  · simp only [Act.put, List.setIfInBounds_toArray, List.set_cons_succ, List.set_cons_zero]
    rfl
  refine RS.go1g (v := ?_) (a' := ?_) (by kernel_rfl) ?_ ?_ ?_
  rotate_left 2
  · intro K wx hS hK
    go_simp
    exact hK _ hS
  · simp only [Act.put, List.setIfInBounds_toArray, List.set_cons_succ, List.set_cons_zero]
    rfl
  refine RS.go1g (v := ?_) (a' := ?_) (by kernel_rfl) ?_ ?_ ?_
  rotate_left 2
  · intro K wx hS hK
    refine ld rfl rfl (hS.v (w.heap.size + 1, Q) (by simp)).c ?_
    exact hK _ hS
  · simp only [Act.put, List.setIfInBounds_toArray, List.set_cons_succ, List.set_cons_zero]
    rfl
  refine RS.go1g (v := ?_) (a' := ?_) (by kernel_rfl) ?_ ?_ ?_
  rotate_left 2
  · intro K wx hS hK
    refine ld rfl rfl (hS.v (w.heap.size + 2, R) (by simp)).c ?_
    exact hK _ hS
  · simp only [Act.put, List.setIfInBounds_toArray, List.set_cons_succ, List.set_cons_zero]
    rfl
  refine RS.go1g (v := ?_) (a' := ?_) (by kernel_rfl) ?_ ?_ ?_
  rotate_left 2
  · intro K wx hS hK
    go_simp
    refine (KC.out wx).mono (fun e w2 he => ?_)
    refine ⟨_, he.1, ?_⟩
    exact hK _ (Mem_below hS he.2)
  · simp only [Act.put, List.setIfInBounds_toArray, List.set_cons_succ, List.set_cons_zero]
    rfl
  refine RS.go1g (v := ?_) (a' := ?_) (by kernel_rfl) ?_ ?_ ?_
  rotate_left 2
  · intro K wx hS hK
    go_simp
    exact hK _ hS
  · simp only [Act.put, List.setIfInBounds_toArray, List.set_cons_succ, List.set_cons_zero]
    rfl
  refine RS.go1g (v := ?_) (a' := ?_) (by kernel_rfl) ?_ ?_ ?_
  rotate_left 2
  · intro K wx hS hK
    go_simp
    exact hK _ hS
  · simp only [Act.put, List.setIfInBounds_toArray, List.set_cons_succ, List.set_cons_zero]
    rfl
  refine RS.go1g (v := ?_) (a' := ?_) (by kernel_rfl) ?_ ?_ ?_
  rotate_left 2
  · intro K wx hS hK
    refine ld rfl rfl (hS.v (w.heap.size, P) (by simp)).c ?_
    exact hK _ hS
  · simp only [Act.put, List.setIfInBounds_toArray, List.set_cons_succ, List.set_cons_zero]
    rfl
  refine RS.go1g (v := ?_) (a' := ?_) (by kernel_rfl) ?_ ?_ ?_
  rotate_left 2
  · intro K wx hS hK
    refine ld rfl rfl (hS.v (w.heap.size + 2, R) (by simp)).c ?_
    exact hK _ hS
  · simp only [Act.put, List.setIfInBounds_toArray, List.set_cons_succ, List.set_cons_zero]
    rfl
  refine RS.go1g (v := ?_) (a' := ?_) (by kernel_rfl) ?_ ?_ ?_
  rotate_left 2
  · intro K wx hS hK
    go_simp
    refine (KD.out wx).mono (fun e w2 he => ?_)
    refine ⟨_, he.1, ?_⟩
    exact hK _ (Mem_below hS he.2)
  · simp only [Act.put, List.setIfInBounds_toArray, List.set_cons_succ, List.set_cons_zero]
    rfl
  refine RS.go1g (v := ?_) (a' := ?_) (by kernel_rfl) ?_ ?_ ?_
  rotate_left 2
  · intro K wx hS hK
    go_simp
    exact hK _ hS
  · simp only [Act.put, List.setIfInBounds_toArray, List.set_cons_succ, List.set_cons_zero]
    rfl
  refine RS.go1g (v := ?_) (a' := ?_) (by kernel_rfl) ?_ ?_ ?_
  rotate_left 2
  · intro K wx hS hK
    go_simp
    exact hK _ hS
  · simp only [Act.put, List.setIfInBounds_toArray, List.set_cons_succ, List.set_cons_zero]
    rfl
  refine RS.go1 (v := ?_) (a' := ?_) rfl ?_ ?_ ?_
  rotate_left 2
  · intro K wx hS hK
    go_simp
    exact hK _ hS
  · simp only [Act.put, List.setIfInBounds_toArray, List.set_cons_succ, List.set_cons_zero]
    rfl
  refine RS.go_end ?_
  intro w9 m9
  clear m4
  go_upto_region 5 with fail
  refine RS.wp_region_one (Mem w [(w.heap.size + 2, R), (w.heap.size + 1, Q), (w.heap.size, P)]) (by kernel_rfl) (by kernel_rfl) (Mem_drew m9) ?_
  dsimp only [List.toList_toArray]
  refine RS.go1 (v := ?_) (a' := ?_) rfl ?_ ?_ ?_
  rotate_left 2
  · intro K wx hS hK
    refine ld rfl rfl (hS.v (w.heap.size, P) (by simp)).c ?_
    exact hK _ hS
  · simp only [Act.put, List.setIfInBounds_toArray, List.set_cons_succ, List.set_cons_zero]
    rfl
  refine RS.go1 (v := ?_) (a' := ?_) rfl ?_ ?_ ?_
  rotate_left 2
  · intro K wx hS hK
    refine ld rfl rfl (hS.v (w.heap.size + 1, Q) (by simp)).c ?_
    exact hK _ hS
  · simp only [Act.put, List.setIfInBounds_toArray, List.set_cons_succ, List.set_cons_zero]
    rfl
  refine RS.go1 (v := ?_) (a' := ?_) rfl ?_ ?_ ?_
  rotate_left 2
  · intro K wx hS hK
    go_simp
    refine (KJ.out wx).mono (fun e w2 he => ?_)
    refine ⟨_, he.1, ?_⟩
    exact hK _ (Mem_below hS he.2)
  · simp only [Act.put, List.setIfInBounds_toArray, List.set_cons_succ, List.set_cons_zero]
    rfl
  refine RS.go1 (v := ?_) (a' := ?_) rfl ?_ ?_ ?_
  rotate_left 2
  · intro K wx hS hK
    refine ld rfl rfl (hS.v (w.heap.size + 2, R) (by simp)).c ?_
    exact hK _ hS
  · simp only [Act.put, List.setIfInBounds_toArray, List.set_cons_succ, List.set_cons_zero]
    rfl
  refine RS.go1 (v := ?_) (a' := ?_) rfl ?_ ?_ ?_
  rotate_left 2
  · intro K wx hS hK
    go_simp
    refine (KX.out wx).mono (fun e w2 he => ?_)
    refine ⟨_, he.1, ?_⟩
    exact hK _ (Mem_below hS he.2)
  · simp only [Act.put, List.setIfInBounds_toArray, List.set_cons_succ, List.set_cons_zero]
    rfl
  refine RS.go1 (v := ?_) (a' := ?_) rfl ?_ ?_ ?_
  rotate_left 2
  · intro K wx hS hK
    refine ld rfl rfl (hS.v (w.heap.size, P) (by simp)).c ?_
    exact hK _ hS
  · simp only [Act.put, List.setIfInBounds_toArray, List.set_cons_succ, List.set_cons_zero]
    rfl
  refine RS.go1 (v := ?_) (a' := ?_) rfl ?_ ?_ ?_
  rotate_left 2
  · intro K wx hS hK
    refine ld rfl rfl (hS.v (w.heap.size + 2, R) (by simp)).c ?_
    exact hK _ hS
  · simp only [Act.put, List.setIfInBounds_toArray, List.set_cons_succ, List.set_cons_zero]
    rfl
  refine RS.go1 (v := ?_) (a' := ?_) rfl ?_ ?_ ?_
  rotate_left 2
  · intro K wx hS hK
    go_simp
    refine (KD.out wx).mono (fun e w2 he => ?_)
    refine ⟨_, he.1, ?_⟩
    exact hK _ (Mem_below hS he.2)
  · simp only [Act.put, List.setIfInBounds_toArray, List.set_cons_succ, List.set_cons_zero]
    rfl
  refine RS.go1 (v := ?_) (a' := ?_) rfl ?_ ?_ ?_
  rotate_left 2
  · intro K wx hS hK
    go_simp
    exact hK _ hS
  · simp only [Act.put, List.setIfInBounds_toArray, List.set_cons_succ, List.set_cons_zero]
    rfl
  refine RS.go1g (v := ?_) (a' := ?_) (by kernel_rfl) ?_ ?_ ?_
  rotate_left 2
  · intro K wx hS hK
    refine ld rfl rfl (hS.v (w.heap.size + 1, Q) (by simp)).c ?_
    exact hK _ hS
  · simp only [Act.put, List.setIfInBounds_toArray, List.set_cons_succ, List.set_cons_zero]
    rfl
  refine RS.go1g (v := ?_) (a' := ?_) (by kernel_rfl) ?_ ?_ ?_
  rotate_left 2
  · intro K wx hS hK
    refine ld rfl rfl (hS.v (w.heap.size + 2, R) (by simp)).c ?_
    exact hK _ hS
  · simp only [Act.put, List.setIfInBounds_toArray, List.set_cons_succ, List.set_cons_zero]
    rfl
  refine RS.go1g (v := ?_) (a' := ?_) (by kernel_rfl) ?_ ?_ ?_
  rotate_left 2
  · intro K wx hS hK
    go_simp
    refine (KC.out wx).mono (fun e w2 he => ?_)
    refine ⟨_, he.1, ?_⟩
    exact hK _ (Mem_below hS he.2)
  · simp only [Act.put, List.setIfInBounds_toArray, List.set_cons_succ, List.set_cons_zero]
    rfl
  refine RS.go1 (v := ?_) (a' := ?_) rfl ?_ ?_ ?_
  rotate_left 2
  · intro K wx hS hK
    go_simp
    exact hK _ hS
  · simp only [Act.put, List.setIfInBounds_toArray, List.set_cons_succ, List.set_cons_zero]
    rfl
  refine RS.go1 (v := ?_) (a' := ?_) rfl ?_ ?_ ?_
  rotate_left 2
  · intro K wx hS hK
    go_simp
    exact hK _ hS
  · simp only [Act.put, List.setIfInBounds_toArray, List.set_cons_succ, List.set_cons_zero]
    rfl
  refine RS.go1 (v := ?_) (a' := ?_) rfl ?_ ?_ ?_
  rotate_left 2
  · intro K wx hS hK
    go_simp
    exact hK _ hS
  · simp only [Act.put, List.setIfInBounds_toArray, List.set_cons_succ, List.set_cons_zero]
    rfl
  refine RS.go_end ?_
  intro w8 m8
  have b8 := m8.b
  clear m8 m9
  go_wp2_with fail
  go_ret
  exact ⟨by simp, b8⟩
theorem law_within (P Q R : Nat → Bool) (w : World) :
    Calls Try.prog 6 #[Hv (FB P), Hv (FB Q), Hv (FB R)] w fun e w' => e = .returned (.bool true) ∧ Below w.heap.size w w' := by
  cases ha : wi P Q
  · cases hd : wi P R
    · exact law_within_a P Q R (wi Q R) w ha rfl hd
    · exact law_within_b P Q R (wi Q R) w ha rfl hd
  · cases hc : wi Q R
    · cases hb : wi Q P
      · cases hd : wi P R
        · exact law_within_c P Q R w ha hb hc hd
        · exact law_within_d P Q R w ha hb hc hd
      · cases hd : wi P R
        · exact law_within_f P Q R w ha hb hc hd
        · exact law_within_g P Q R w ha hb hc hd
    · cases hb : wi Q P
      · exact law_within_e P Q R w ha hb hc (wi_trans ha hc)
      · exact law_within_h P Q R w ha hb hc (wi_trans ha hc)
end Bl
end Go.Proofs.Ytcgjkombefhjmaa
