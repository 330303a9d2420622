import Derived.Test.YtlbdaccmnpcccaaGreatDoorPackG
import Derived.Test.YtlbdaccmnpcccaaGreatDoorPackA
import Derived.Test.YtlbdaccmnpcccaaGreatDoorPackF
import Derived.Test.YtlbdaccmnpcccaaGreatDoorPackE
import Derived.Deep.MidRow
set_option maxRecDepth 100000
set_option maxHeartbeats 4000000
namespace Go.Proofs.YtlbdaccmnpcccaaGreatDoor
namespace Tr
open Nb Go.RowKit
mutual
def wn : Nd → Nat
 | .mk _ p v ks => 4 + p.length + v.length + wnk ks
def wnk : List Nd → Nat
 | [] => 0
 | t :: r => wn t + wnk r
end
theorem wnk_one : ∀ (ks : List Nd) (j : Nat),j < ks.length → wn (ks.getD j Nd.no) ≤ wnk ks
 | [],j,h => absurd h (by simp)
 | k :: r,0,_ => by unfold wnk; rw [List.getD_cons_zero]; omega
 | k :: r,j + 1,h => by
  have := wnk_one r j (by simpa using h); unfold wnk
  rw [List.getD_cons_succ]; omega
theorem wnk_take : ∀ (ks : List Nd) (j : Nat),j < ks.length → wnk (ks.take j) + wn (ks.getD j Nd.no) ≤ wnk ks
 | [],j,h => absurd h (by simp)
 | k :: r,0,_ => by rw [List.take_zero,List.getD_cons_zero]; unfold wnk; omega
 | k :: r,j + 1,h => by
  have := wnk_take r j (by simpa using h); rw [List.take_succ_cons,List.getD_cons_succ]; unfold wnk
  omega
theorem rtk_count : ∀ (ks : List Nd) (i : Nat) (L : Rt),(∀ j,j < ks.length → ∀ a,rt (ks.getD j Nd.no) = some a → a.length ≤ wn (ks.getD j Nd.no)) → rtk i ks = some L → L.length ≤ wnk ks
 | [],i,L,_,h => by unfold rtk at h; cases h; exact Nat.zero_le _
 | t :: r,i,L,hk,h => by
  unfold rtk at h
  cases ha : rt t with
  | none => rw [ha] at h; cases h
  | some a =>
   cases hb : rtk (i + 1) r with
   | none => rw [ha,hb] at h; cases h
   | some b =>
    rw [ha,hb] at h; cases h
    have h1 := hk 0 (by simp) a (by rw [List.getD_cons_zero]; exact ha)
    rw [List.getD_cons_zero] at h1; have h2 := rtk_count r (i + 1) b (fun j hj c hc => by
     have := hk (j + 1) (by simpa using hj) c; rw [List.getD_cons_succ] at this; exact this hc) hb
    unfold wnk
    rw [List.length_append,pre_len']; omega
theorem rt_two (p v : By) (t : Nd) (hp : Pt p) : rt (.mk 2 p v [t]) = (rt t).map (pre p) := by
 rw [rt,if_neg (fun h => by rw [(ptb_iff p).2 hp] at h; cases h.2),if_neg (by decide),if_neg (by decide),if_pos ⟨rfl,rfl⟩,rt0]
theorem rt_count {t : Nd} (h : Wf t) : ∀ l,rt t = some l → l.length ≤ wn t := by
 induction h with
 | mk k p v ks _ ih =>
  intro l h; unfold rt at h
  split at h
  ·cases h
  split at h
  ·cases h; exact Nat.zero_le _
  split at h
  ·cases h
   unfold wn
   rw [List.length_singleton]; omega
  split at h
  ·rename_i h2
   obtain ⟨t,rfl⟩ := List.length_eq_one_iff.1 h2.2; rw [rt0] at h; cases ha : rt t with
   | none => rw [ha] at h; cases h
   | some a =>
    rw [ha] at h; cases h
    have := ih 0 (by simp) a ha; rw [List.getD_cons_zero] at this; unfold wn wnk wnk
    rw [pre_len']; omega
  split at h
  ·rename_i h3
   cases ha : rtk 0 ks with
   | none => rw [ha] at h; cases h
   | some a =>
    rw [ha] at h; cases h
    have := rtk_count ks 0 a ih ha; unfold wn
    rw [List.length_append]; split
    ·rw [List.length_nil]; omega
    ·rw [List.length_singleton]; omega
  ·cases h
theorem rt_none_bad (k : Int) (p v : By) (ks : List Nd) (hk : k = 1 ∨ k = 2) (hp : ¬ Pt p) : rt (.mk k p v ks) = none := by
 rw [rt,if_pos ⟨hk,by cases h : ptb p with | false => rfl | true => exact absurd ((ptb_iff p).1 h) hp⟩]
theorem routes_any {t : Nd} (ht : Wf t) : ∀ (S : Nat → Prop) (x : V4) (w : World) (P : By),Nv S w t x → P.length + wn t ≤ 4194304 → Calls Tryz.prog 41 #[v4 x,.string (st P)] w fun e w' => RT t P e w' ∧ Below w.heap.size w w' := by
 induction ht with
 | mk k p v ks _ ih =>
  intro S x w P hx hw; cases hx with
  | mk _ _ _ _ pv vv kv vs hp hv hl hkk hi =>
   have sp := Bs_sl hp; have sv := Bs_sl hv; obtain ⟨a1,c1,rfl,-,-⟩ := hp; obtain ⟨a2,c2,rfl,-,-⟩ := hv; have hkA := hkk; obtain ⟨a3,c3,rfl,-,hkq⟩ := hkk; have hw' : P.length + (4 + p.length + v.length + wnk ks) ≤ 4194304 := by unfold wn at hw; exact hw
   have hz : p.length ≤ 4194304 := by omega
   show Calls Tryz.prog 41 #[.agg #[.int .i64 k,_,_,_],_] w _
   by_cases h0 : k = 0
   ·subst h0; refine (rt_zero a1 a2 a3 _ c1 _ c2 _ c3 P w p hz sp).mono fun e w' he => ⟨.inl ⟨[],_,?_,he.1,Rv_nil _⟩,he.2⟩
    unfold rt; simp
   by_cases h1 : k = 1
   ·subst h1; by_cases hpt : Pt p
    ·refine (rt_leaf a1 a2 a3 _ c1 _ c2 _ c3 P w p hz sp (fun j hj => pt_bz hpt j hj) rfl v sv (by omega)).mono fun e w' he => ?_
     obtain ⟨⟨y,h2,h3⟩,h4⟩ := he; refine ⟨.inl ⟨[(p,v)],y,?_,h2,h3⟩,h4⟩; rw [rt,if_neg (fun h => by rw [(ptb_iff p).2 hpt] at h; cases h.2),if_neg (by decide),if_pos rfl]
    ·obtain ⟨i,h2,h3,h4⟩ := not_pt hpt; exact (rt_leaf_no a1 a2 a3 _ c1 _ c2 _ c3 P w p hz sp i h2 ⟨h3,h4⟩).mono fun e w' he => ⟨.inr ⟨rt_none_bad 1 p v ks (.inl rfl) hpt,he.1⟩,he.2⟩
   by_cases h2 : k = 2
   ·subst h2; by_cases hpt : Pt p
    ·by_cases hlen : ks.length = 1
     ·obtain ⟨t,rfl⟩ := List.length_eq_one_iff.1 hlen; obtain ⟨gk,off,rfl,-,hgk,hcell⟩ := hkq (by rw [hl]; simp)
      have hi0 := hi 0 (by simp); rw [List.getD_cons_zero] at hi0; obtain ⟨y0,y1,y2,y3⟩ := hcell 0 (by rw [hl]; simp)
      obtain ⟨q,b1,m1,d1,b2,m2,d2,b3,m3,d3,ev⟩ := Nv_form hi0; rw [ev] at y0 y1 y2 y3 hi0; have e1 : vs.length = 1 := by rw [hl]; rfl
      rw [e1]; have KR : ∀ wx : World,Below w.heap.size w wx → Calls Tryz.prog 41 #[.agg #[.int .i64 q,.slice b1 m1 d1,.slice b2 m2 d2,.slice b3 m3 d3],.string (st (P ++ p))] wx fun e w' => RT t (P ++ p) e w' ∧ Below wx.heap.size wx w' := fun wx hb => ih 0 (by simp) S (.int .i64 q,.slice b1 m1 d1,.slice b2 m2 d2,.slice b3 m3 d3) wx (P ++ p) (Nv_below hi0 hb) (by
       rw [List.getD_cons_zero,List.length_append]; unfold wnk wnk at hw'
       omega)
      cases hr : rt t with
      | some l =>
       refine (rt_road a1 a2 _ c1 _ c2 c3 P w p hz sp (fun j hj => pt_bz hpt j hj) rfl (by omega) (fun x w => Rv (pre (P ++ p) l) x w) true (fun x w w' h hb => Rv_below h hb) q b1 b2 b3 m1 d1 m2 d2 m3 d3 gk off hgk y0 y1 y2 y3 (fun wx hb => (KR wx hb).mono fun e w' he => ?_)).mono fun e w' he => ?_
       ·obtain ⟨h3 | h3,h4⟩ := he
        ·obtain ⟨l2,x2,h5,h6,h7⟩ := h3; rw [hr] at h5; cases h5
         exact ⟨x2,h6,h7,h4⟩
        ·rw [hr] at h3; cases h3.1
       ·obtain ⟨⟨x2,h3,h4⟩,h5⟩ := he; refine ⟨.inl ⟨pre p l,x2,?_,h3,?_⟩,h5⟩
        ·rw [rt_two p v t hpt,hr]; rfl
        ·rw [pre_pre]; exact h4
      | none =>
       refine (rt_road a1 a2 _ c1 _ c2 c3 P w p hz sp (fun j hj => pt_bz hpt j hj) rfl (by omega) (fun x _ => x = .slice none 0 0) false (fun x w w' h hb => h) q b1 b2 b3 m1 d1 m2 d2 m3 d3 gk off hgk y0 y1 y2 y3 (fun wx hb => (KR wx hb).mono fun e w' he => ?_)).mono fun e w' he => ?_
       ·obtain ⟨h3 | h3,h4⟩ := he
        ·obtain ⟨l2,x2,h5,h6,h7⟩ := h3; rw [hr] at h5; cases h5
        ·exact ⟨_,h3.2,rfl,h4⟩
       ·obtain ⟨⟨x2,h3,h4⟩,h5⟩ := he; subst h4; refine ⟨.inr ⟨?_,h3⟩,h5⟩; rw [rt_two p v t hpt,hr]; rfl
     ·refine (rt_road_no a1 a2 a3 _ c1 _ c2 _ c3 P w p hz sp (fun j hj => pt_bz hpt j hj) (by omega)).mono fun e w' he => ⟨.inr ⟨?_,he.1⟩,he.2⟩
      rw [rt,if_neg (fun h => by rw [(ptb_iff p).2 hpt] at h; cases h.2),if_neg (by decide),if_neg (by decide),if_neg (fun h => hlen h.2),if_neg (fun h => absurd h.1 (by decide))]
    ·obtain ⟨i,h3,h4,h5⟩ := not_pt hpt; exact (rt_road_bad a1 a2 a3 _ c1 _ c2 _ c3 P w p hz sp i h3 ⟨h4,h5⟩).mono fun e w' he => ⟨.inr ⟨rt_none_bad 2 p v ks (.inr rfl) hpt,he.1⟩,he.2⟩
   by_cases h3 : k = 3
   ·subst h3; by_cases hlen : ks.length = 16
    ·obtain ⟨gk,off,rfl,-,hgk,hcell⟩ := hkq (by rw [hl,hlen]; decide)
     have e1 : vs.length = 16 := by rw [hl,hlen]
     rw [e1] at hkA ⊢; have KR : ∀ j,j < 16 → ∀ (u : V4) (wx : World),Nv S wx (ks.getD j Nd.no) u → Calls Tryz.prog 41 #[v4 u,.string (st (P ++ [UInt8.ofNat j]))] wx fun e w' => RT (ks.getD j Nd.no) (P ++ [UInt8.ofNat j]) e w' ∧ Below wx.heap.size wx w' := fun j hj u wx hu => ih j (by omega) S u wx (P ++ [UInt8.ofNat j]) hu (by
      have := wnk_one ks j (by omega); rw [List.length_append,List.length_singleton]; omega)
     have HN : ∀ j L a,j < 16 → rtk 0 (ks.take j) = some L → rt (ks.getD j Nd.no) = some a → 1 + L.length + a.length ≤ 4194304 := fun j L a hj hL ha => by
      have q1 := rtk_count (ks.take j) 0 L (fun i hi c hc => rt_count (wf_any _) c hc) hL
      have q2 := rt_count (wf_any _) a ha; have q3 := wnk_take ks j (by omega); omega
     by_cases hv0 : v = []
     ·exact rt_fork_e a1 a2 _ c1 _ c2 c3 P w p hz sp v sv rfl (by omega) S ks vs gk off hlen e1 hkA (fun j hj => hi j (by omega)) KR HN hv0
     ·exact rt_fork_v a1 a2 _ c1 _ c2 c3 P w p hz sp v sv rfl (by omega) S ks vs gk off hlen e1 hkA (fun j hj => hi j (by omega)) KR HN hv0
    ·refine (rt_fork_no a1 a2 a3 _ c1 _ c2 _ c3 P w p hz sp (by omega)).mono fun e w' he => ⟨.inr ⟨?_,he.1⟩,he.2⟩
     rw [rt,if_neg (fun h => by rcases h.1 with h | h <;> exact absurd h (by decide)),if_neg (by decide),if_neg (by decide),if_neg (fun h => absurd h.1 (by decide)),if_neg (fun h => hlen h.2)]
   ·refine (rt_other a1 a2 a3 _ c1 _ c2 _ c3 P w p hz sp k h0 h1 h2 h3).mono fun e w' he => ⟨.inr ⟨?_,he.1⟩,he.2⟩
    rw [rt,if_neg (fun h => by rcases h.1 with h | h; exact h1 h; exact h2 h),if_neg h0,if_neg h1,if_neg (fun h => h2 h.1),if_neg (fun h => h3 h.1)]
end Tr
end Go.Proofs.YtlbdaccmnpcccaaGreatDoor
namespace Go.Proofs.YtlbdaccmnpcccaaGreatDoor
namespace Pf
open Rs Go.RowKit
abbrev Bs := List UInt8
def wk (s : Shp) (left : Bs) : Option (Nat × Bs) :=
 if s.1 = 2 then (if s.2.1.isPrefixOf left then some (0,left.drop s.2.1.length) else none)
 else if s.1 = 3 then (match left with | [] => none | a :: r => some (a.toNat,r))
 else none
def here (s : Shp) (left : Bs) : Bool := (decide (s.1 = 1) && decide (s.2.1 = left)) || (decide (s.1 = 3) && decide (left = []))
def Hf (l : Bs) : Prop := ∀ x ∈ l,x.toNat < 16
end Pf
end Go.Proofs.YtlbdaccmnpcccaaGreatDoor
namespace Go.Proofs.YtlbdaccmnpcccaaGreatDoor
namespace Pm
open Rt
abbrev By := List UInt8
abbrev Nd := Tr.Nd
def shp : Nd → Rs.Shp
 | .mk k p v _ => (k,p,v,[])
def kids : Nd → List Nd
 | .mk _ _ _ ks => ks
def nxt (t : Nd) (left : By) : Option (Nat × Nd × By) := match Pf.wk (shp t) left with
 | some (j,r) => if ((kids t).getD j Tr.Nd.no).kind = 0 then none else some (j,(kids t).getD j Tr.Nd.no,r)
 | none => none
def wyf : Nat → Nd → By → List By
 | 0,t,_ => [cd t]
 | f + 1,t,left => cd t :: (match nxt t left with
  | some (_,u,r) => wyf f u r
  | none => [])
def wy (t : Nd) (left : By) : List By := wyf left.length t left
def plf : Nat → Nd → By → Nat → List Nat
 | 0,_,_,a => [a]
 | f + 1,t,left,a => a :: (match nxt t left with
  | some (j,u,r) => plf f u r (a + (1 + (cdk ((kids t).take j)).length))
  | none => [])
def pl (t : Nd) (left : By) (a : Nat) : List Nat := plf left.length t left a
theorem wk_ok {t : Nd} {left r : By} {j : Nat} (ht : Hr t) (hl : Pf.Hf left) (hw : Pf.wk (shp t) left = some (j,r)) : r.length < left.length ∧ j < (kids t).length ∧ Hr ((kids t).getD j Tr.Nd.no) ∧ Pf.Hf r ∧ (t.kind = 2 ∨ t.kind = 3) := by
 have ht0 := ht; unfold Pf.wk at hw
 obtain ⟨hs,hv⟩ := ht; cases hs with
 | none p v ks =>
  rw [shp,if_neg (show ¬ ((0 : Int) = 2) by decide),if_neg (show ¬ ((0 : Int) = 3) by decide)] at hw; cases hw
 | leaf p v ks hp h0 =>
  rw [shp,if_neg (show ¬ ((1 : Int) = 2) by decide),if_neg (show ¬ ((1 : Int) = 3) by decide)] at hw; cases hw
 | road p v t hp h0 hk2 ht2 =>
  rw [shp,if_pos (rfl : (2 : Int) = 2)] at hw; dsimp only at hw; split at hw
  ·rename_i hpre
   injection hw with hw
   injection hw with e1 e2
   subst e1 e2; have hle := (List.isPrefixOf_iff_prefix.1 hpre).length_le; have hp0 : 0 < p.length := List.length_pos_iff.2 h0; exact ⟨by rw [List.length_drop]; omega,by simp [kids],hr_road ht0,fun x hx => hl x (List.mem_of_mem_drop hx),.inl rfl⟩
  ·cases hw
 | fork p v ks hlen hkk h2 =>
  rw [shp,if_neg (show ¬ ((3 : Int) = 2) by decide),if_pos (rfl : (3 : Int) = 3)] at hw; cases left with
  | nil => cases hw
  | cons a r =>
   injection hw with hw
   injection hw with e1 e2
   subst e1 e2; have ha : a.toNat < 16 := hl a List.mem_cons_self; exact ⟨by simp,by show _ < ks.length; omega,hr_kid ht0 _ ha,fun x hx => hl x (List.mem_cons_of_mem _ hx),.inr rfl⟩
theorem nxt_ok {t u : Nd} {left r : By} {j : Nat} (ht : Hr t) (hl : Pf.Hf left) (h : nxt t left = some (j,u,r)) : r.length < left.length ∧ j < (kids t).length ∧ Hr u ∧ Pf.Hf r ∧ (t.kind = 2 ∨ t.kind = 3) ∧ u = (kids t).getD j Tr.Nd.no ∧ u.kind ≠ 0 ∧ Pf.wk (shp t) left = some (j,r) := by
 unfold nxt at h
 split at h
 ·rename_i j' r' hw
  split at h
  ·cases h
  ·rename_i hk
   injection h with h
   injection h with e1 h
   injection h with e2 e3
   subst e1 e2 e3; obtain ⟨q1,q2,q3,q4,q5⟩ := wk_ok ht hl hw; exact ⟨q1,q2,q3,q4,q5,rfl,hk,hw⟩
 ·cases h
theorem nxt_0 {t : Nd} {left : By} (h : Pf.wk (shp t) left = none) : nxt t left = none := by unfold nxt; rw [h]
theorem nxt_k0 {t : Nd} {left r : By} {j : Nat} (h : Pf.wk (shp t) left = some (j,r)) (hk : ((kids t).getD j Tr.Nd.no).kind = 0) : nxt t left = none := by
 unfold nxt
 rw [h]; exact if_pos hk
theorem nxt_k1 {t : Nd} {left r : By} {j : Nat} (h : Pf.wk (shp t) left = some (j,r)) (hk : ((kids t).getD j Tr.Nd.no).kind ≠ 0) : nxt t left = some (j,(kids t).getD j Tr.Nd.no,r) := by
 unfold nxt
 rw [h]; exact if_neg hk
theorem kid_rs {t : Nd} (ht : Hr t) (h : t.kind = 2 ∨ t.kind = 3) (j : Nat) (hj : j < (kids t).length) : Tr.Rs ((kids t).getD j Tr.Nd.no) := by
 obtain ⟨hs,_⟩ := ht; cases hs with
 | none => rcases h with h | h <;> cases h
 | leaf => rcases h with h | h <;> cases h
 | road p v t hp h0 hk2 ht2 =>
  have : j = 0 := by simp [kids] at hj; omega
  subst this; exact ht2
 | fork p v ks hlen hkk h2 => exact hkk j (by have hj' : j < ks.length := hj; omega)
theorem wyf_any : ∀ (f g : Nat) (t : Nd) (left : By),Hr t → Pf.Hf left → left.length ≤ f → left.length ≤ g → wyf f t left = wyf g t left
 | 0,0,_,_,_,_,_,_ => rfl
 | 0,g + 1,t,left,ht,hl,h1,_ => by
  unfold wyf
  cases hx : nxt t left with
  | none => rfl
  | some x =>
   obtain ⟨j,u,r⟩ := x; have := (nxt_ok ht hl hx).1; omega
 | f + 1,0,t,left,ht,hl,_,h2 => by
  unfold wyf
  cases hx : nxt t left with
  | none => rfl
  | some x =>
   obtain ⟨j,u,r⟩ := x; have := (nxt_ok ht hl hx).1; omega
 | f + 1,g + 1,t,left,ht,hl,h1,h2 => by
  unfold wyf
  cases hx : nxt t left with
  | none => rfl
  | some x =>
   obtain ⟨j,u,r⟩ := x; obtain ⟨q1,_,q3,q4,_⟩ := nxt_ok ht hl hx; dsimp only
   rw [wyf_any f g u r q3 q4 (by omega) (by omega)]
theorem plf_any : ∀ (f g : Nat) (t : Nd) (left : By) (a : Nat),Hr t → Pf.Hf left → left.length ≤ f → left.length ≤ g → plf f t left a = plf g t left a
 | 0,0,_,_,_,_,_,_,_ => rfl
 | 0,g + 1,t,left,a,ht,hl,h1,_ => by
  unfold plf
  cases hx : nxt t left with
  | none => rfl
  | some x =>
   obtain ⟨j,u,r⟩ := x; have := (nxt_ok ht hl hx).1; omega
 | f + 1,0,t,left,a,ht,hl,_,h2 => by
  unfold plf
  cases hx : nxt t left with
  | none => rfl
  | some x =>
   obtain ⟨j,u,r⟩ := x; have := (nxt_ok ht hl hx).1; omega
 | f + 1,g + 1,t,left,a,ht,hl,h1,h2 => by
  unfold plf
  cases hx : nxt t left with
  | none => rfl
  | some x =>
   obtain ⟨j,u,r⟩ := x; obtain ⟨q1,_,q3,q4,_⟩ := nxt_ok ht hl hx; dsimp only
   rw [plf_any f g u r _ q3 q4 (by omega) (by omega)]
theorem wy_none {t : Nd} {left : By} (h : nxt t left = none) : wy t left = [cd t] := by
 unfold wy
 cases left.length with
 | zero => rfl
 | succ n => rw [wyf,h]
theorem wy_some {t u : Nd} {left r : By} {j : Nat} (ht : Hr t) (hl : Pf.Hf left) (h : nxt t left = some (j,u,r)) : wy t left = cd t :: wy u r := by
 obtain ⟨q1,_,q3,q4,_⟩ := nxt_ok ht hl h; unfold wy
 obtain ⟨n,hn⟩ : ∃ n,left.length = n + 1 := ⟨left.length - 1,by omega⟩; rw [hn,wyf,h]; dsimp only
 rw [wyf_any n r.length u r q3 q4 (by omega) (Nat.le_refl _)]
theorem pl_none {t : Nd} {left : By} (a : Nat) (h : nxt t left = none) : pl t left a = [a] := by
 unfold pl
 cases left.length with
 | zero => rfl
 | succ n => rw [plf,h]
theorem pl_some {t u : Nd} {left r : By} {j : Nat} (a : Nat) (ht : Hr t) (hl : Pf.Hf left) (h : nxt t left = some (j,u,r)) : pl t left a = a :: pl u r (a + (1 + (cdk ((kids t).take j)).length)) := by
 obtain ⟨q1,_,q3,q4,_⟩ := nxt_ok ht hl h; unfold pl
 obtain ⟨n,hn⟩ : ∃ n,left.length = n + 1 := ⟨left.length - 1,by omega⟩; rw [hn,plf,h]; dsimp only
 rw [plf_any n r.length u r _ q3 q4 (by omega) (Nat.le_refl _)]
theorem cdk_app (a b : List Nd) : cdk (a ++ b) = cdk a ++ cdk b := by
 induction a with
 | nil => rw [List.nil_append,cdk,List.nil_append]
 | cons t r ih => rw [List.cons_append,cdk,cdk,ih,List.append_assoc]
theorem cdk_at (ks : List Nd) (j : Nat) (h : j < ks.length) (hk : (ks.getD j Tr.Nd.no).kind ≠ 0) : cdk ks = cdk (ks.take j) ++ (cds (ks.getD j Tr.Nd.no) ++ cdk (ks.drop (j + 1))) := by
 have e : ks = ks.take j ++ (ks.getD j Tr.Nd.no :: ks.drop (j + 1)) := by
  have e2 : ks.getD j Tr.Nd.no = ks[j] := by simp [h]
  rw [e2,← List.drop_eq_getElem_cons h,List.take_append_drop]
 have e3 := congrArg cdk e; rw [cdk_app,cdk,if_neg hk] at e3; exact e3
theorem cds_cons (t : Nd) : ∃ l,cds t = cd t :: l := by
 obtain ⟨k,p,v,ks⟩ := t; exact ⟨_,by rw [cds]⟩
theorem cds_kids {t : Nd} (h : t.kind = 2 ∨ t.kind = 3) : cds t = cd t :: cdk (kids t) := by
 obtain ⟨k,p,v,ks⟩ := t; have h' : k = 2 ∨ k = 3 := h; rw [cds,if_pos h']; rfl
theorem places_ok : ∀ (n : Nat) (t : Nd) (left : By) (a : Nat) (C : List By),left.length ≤ n → Hr t → Pf.Hf left → (∀ q,q < (cds t).length → C.getD (a + q) [] = (cds t).getD q []) → a + (cds t).length ≤ C.length → (pl t left a).map (fun x => C.getD x []) = wy t left ∧ ∀ x ∈ pl t left a,x < C.length
 | n,t,left,a,C,hn,ht,hl,hC,hA => by
  obtain ⟨l0,e0⟩ := cds_cons t; have c0 := hC 0 (by rw [e0]; simp)
  rw [Nat.add_zero] at c0; have c1 : C.getD a [] = cd t := by rw [c0,e0]; rfl
  have a1 : a < C.length := by rw [e0] at hA; simp at hA; omega
  cases hx : nxt t left with
  | none =>
   rw [pl_none a hx,wy_none hx]; exact ⟨by rw [List.map_cons,c1]; rfl,fun x hx => by rw [List.mem_singleton.1 hx]; exact a1⟩
  | some x =>
   obtain ⟨j,u,r⟩ := x; obtain ⟨q1,q2,q3,q4,q5,q6,q7,_⟩ := nxt_ok ht hl hx; rw [pl_some a ht hl hx,wy_some ht hl hx]; have e1 := cds_kids q5; have e2 := cdk_at (kids t) j q2 (by rw [← q6]; exact q7)
   rw [← q6] at e2; cases n with
   | zero => omega
   | succ n =>
    have e3 : (cds t).length = 1 + ((cdk ((kids t).take j)).length + ((cds u).length + (cdk ((kids t).drop (j + 1))).length)) := by rw [e1,e2]; simp; omega
    obtain ⟨i1,i2⟩ := places_ok n u r (a + (1 + (cdk ((kids t).take j)).length)) C (by omega) q3 q4 (fun q hq => by
     have h := hC (1 + (cdk ((kids t).take j)).length + q) (by omega); rw [show a + (1 + (cdk ((kids t).take j)).length) + q = a + (1 + (cdk ((kids t).take j)).length + q) by omega,h,e1,e2]; rw [List.getD_eq_getElem?_getD,List.getD_eq_getElem?_getD,show 1 + (cdk ((kids t).take j)).length + q = ((cdk ((kids t).take j)).length + q) + 1 by omega,List.getElem?_cons_succ,List.getElem?_append_right (by omega),Nat.add_sub_cancel_left,List.getElem?_append_left hq]) (by omega)
    refine ⟨by rw [List.map_cons,c1,i1],fun x hx => ?_⟩
    rcases List.mem_cons.1 hx with rfl | hx
    ·exact a1
    ·exact i2 x hx
theorem places_all {t : Nd} {left : By} (ht : Hr t) (hl : Pf.Hf left) : (pl t left 0).map (fun x => (cds t).getD x []) = wy t left ∧ ∀ x ∈ pl t left 0,x < (cds t).length :=
 places_ok left.length t left 0 (cds t) (Nat.le_refl _) ht hl (fun q _ => by rw [Nat.zero_add]) (by omega)
mutual
def cn : Nd → Nat
 | .mk k _ _ ks => if k = 1 then 1 else if k = 2 ∨ k = 3 then 1 + cnk ks else 0
def cnk : List Nd → Nat
 | [] => 0
 | t :: r => cn t + cnk r
end
mutual
theorem cn_wn : ∀ t : Nd,cn t ≤ Tr.wn t
 | .mk k p v ks => by
  have := cnk_wn ks; unfold cn Tr.wn
  split
  ·omega
  ·split <;> omega
theorem cnk_wn : ∀ ks : List Nd,cnk ks ≤ Tr.wnk ks
 | [] => Nat.le_refl _
 | t :: r => by
  have h1 := cn_wn t; have h2 := cnk_wn r; unfold cnk Tr.wnk
  omega
end
theorem cnk_snoc (ks : List Nd) (k : Nat) (h : k < ks.length) : cnk (ks.take (k + 1)) = cnk (ks.take k) + cn (ks.getD k Tr.Nd.no) := by
 induction ks generalizing k with
 | nil => simp at h
 | cons t r ih =>
  cases k with
  | zero => simp [cnk]
  | succ k =>
   rw [List.take_succ_cons,cnk,ih k (by simpa using h),List.take_succ_cons,cnk]; simp
   omega
theorem getD_cons_succ' (t : Nd) (r : List Nd) (j : Nat) : (t :: r).getD (j + 1) Tr.Nd.no = r.getD j Tr.Nd.no := by simp
mutual
theorem cn_ok : ∀ t : Nd,Tr.Rs t → cn t = if t.kind = 0 then 0 else (cds t).length
 | .mk k p v ks,h => by
  have hk : ∀ j,j < ks.length → k = 2 ∨ k = 3 → Tr.Rs (ks.getD j Tr.Nd.no) := fun j hj h23 => by
   cases h with
   | none => rcases h23 with h | h <;> cases h
   | leaf => rcases h23 with h | h <;> cases h
   | road p v t hp h0 hk2 ht2 =>
    have : j = 0 := by simp at hj; omega
    subst this; exact ht2
   | fork p v ks hlen hkk h2 => exact hkk j (by omega)
  have hr : k = 0 ∨ k = 1 ∨ k = 2 ∨ k = 3 := by
   cases h with
   | none => exact .inl rfl
   | leaf => exact .inr (.inl rfl)
   | road => exact .inr (.inr (.inl rfl))
   | fork => exact .inr (.inr (.inr rfl))
  show cn (.mk k p v ks) = if k = 0 then 0 else (cds (.mk k p v ks)).length
  by_cases h23 : k = 2 ∨ k = 3
  ·rw [cn,if_neg (by omega),if_pos h23,if_neg (by omega),cds,if_pos h23,List.length_cons,cnk_ok ks (fun j hj => hk j hj h23),Nat.add_comm]
  ·rcases hr with rfl | rfl | h | h
   ·rw [cn,if_neg (by decide),if_neg h23,if_pos rfl]
   ·rw [cn,if_pos rfl,if_neg (by decide),cds,if_neg h23]; rfl
   ·exact absurd (.inl h) h23
   ·exact absurd (.inr h) h23
theorem cnk_ok : ∀ ks : List Nd,(∀ j,j < ks.length → Tr.Rs (ks.getD j Tr.Nd.no)) → cnk ks = (cdk ks).length
 | [],_ => by rw [cnk,cdk]; rfl
 | t :: r,h => by
  have h1 := cn_ok t (h 0 (by simp)); have h2 := cnk_ok r (fun j hj => by have := h (j + 1) (by simpa using hj); rw [getD_cons_succ'] at this; exact this)
  rw [cnk,cdk,List.length_append,h1,h2]; split <;> simp
end
end Pm
end Go.Proofs.YtlbdaccmnpcccaaGreatDoor
namespace Go.Proofs.YtlbdaccmnpcccaaGreatDoor
namespace Pk
open Go.RowKit
def Nw (B : Nat) (v : Value) : Prop := ∀ a,v.ownBlock = some a → B ≤ a
theorem nw_at {B g o n c : Nat} (h : B ≤ g) : Nw B (.slice (some ⟨g,o,none⟩) n c) := fun a ha => by
 have : g = a := by simpa [Value.ownBlock] using ha
 omega
theorem nw_ty {B : Nat} {b : List UInt8} {v : Value} {w : World} (h : Sl b v w) (hn : Nw B v) : Ty (B ≤ ·) b v w := by
 obtain ⟨ao,cap,h1,h2,h3⟩ := h; refine ⟨ao,cap,h1,h2,fun h0 => ?_⟩
 obtain ⟨g,off,e,hlt,hc⟩ := h3 h0; exact ⟨g,off,e,hn g (by rw [h1,e]; rfl),hlt,hc⟩
theorem pencode2_one (c : UInt8) (a1 a2 : Option Addr) (n2 c1 c2 : Nat) (w : World) (hc : c.toNat < 128) (hs : Sl [c] (.slice a1 1 c1) w) :
  Calls Tryz.prog 87 #[.agg #[.bool false,.slice a1 1 c1,.slice a2 n2 c2]] w fun e w' => ∃ v,e = .returned v ∧ Sl [c] v w' ∧ Below w.heap.size w w' ∧ Nw w.heap.size v := by
 have B1 : Below w.heap.size w (w.alloc (.cells #[.bool false,.slice a1 1 c1,.slice a2 n2 c2] 119)) := (Below.refl _ _).alloc (Nat.le_refl _) _; have q1 : (convert 22 9 (.slice a1 1 c1)).run Tryz.prog (w.alloc (.cells #[.bool false,.slice a1 1 c1,.slice a2 n2 c2] 119)) = .ok (.string ⟨#[c]⟩) (w.alloc (.cells #[.bool false,.slice a1 1 c1,.slice a2 n2 c2] 119)) := Sl_conv (Sl_below hs B1); obtain ⟨k,W,hcv',h2,h3⟩ := str_sl [c] (w.alloc (.cells #[.bool false,.slice a1 1 c1,.slice a2 n2 c2] 119)); have hcv : (convert 9 22 (.string ⟨#[c]⟩)).run Tryz.prog (w.alloc (.cells #[.bool false,.slice a1 1 c1,.slice a2 n2 c2] 119)) = .ok (.slice (some ⟨(w.alloc (.cells #[.bool false,.slice a1 1 c1,.slice a2 n2 c2] 119)).heap.size,0,none⟩) 1 k) W := hcv'; have hsz : (w.alloc (.cells #[.bool false,.slice a1 1 c1,.slice a2 n2 c2] 119)).heap.size = w.heap.size + 1 := by simp
 rw [hsz] at h2; have HR : Hid (∃ v,Ending.returned (.slice (some ⟨w.heap.size + 1,0,none⟩) 1 k) = .returned v ∧ Sl [c] v W ∧ Below w.heap.size w W ∧ Nw w.heap.size v) := ⟨_,rfl,h2,B1.trans (h3.mono B1.size),nw_at (by omega)⟩; have hx : ((⟨#[c]⟩ : ByteArray)[0]'Nat.zero_lt_one).toNat = c.toNat := rfl; have d0 : decide ((c.toNat : Int) < 128) = true := decide_eq_true (by omega); have d1 : (c.toNat : Int) < 128 := by omega
 clear hcv' h2 h3 B1 hs hc hsz; go_enter Tryz.func87,Tryz.ntmps87
 go_wp2_with fail
 go_ret
 exact HR.out
theorem pencode2_head (t : List UInt8) (n : Nat) (a1 a2 : Option Addr) (n2 c1 c2 : Nat) (w : World) (hn : n = t.length) (hz : n ≤ 4194304) (hs : Sl t (.slice a1 n c1) w) (ht : n = 1 → ∃ c : UInt8,t = [c] ∧ 128 ≤ c.toNat) :
  Calls Tryz.prog 87 #[.agg #[.bool false,.slice a1 n c1,.slice a2 n2 c2]] w fun e w' => ∃ v,e = .returned v ∧ Sl (hdr 128 n ++ t) v w' ∧ Below w.heap.size w w' ∧ Nw w.heap.size v := by
 have B1 : Below w.heap.size w (w.alloc (.cells #[.bool false,.slice a1 n c1,.slice a2 n2 c2] 119)) := (Below.refl _ _).alloc (Nat.le_refl _) _; have q1 := Sl_bst (Sl_below hs B1); have hN := heap_alloc_new w (.cells #[.bool false,.slice a1 n c1,.slice a2 n2 c2] 119); have KH : Hid (∀ W : World,Calls Tryz.prog 100 #[.int .i64 (n : Int),.bool false] W fun e w' => e = .returned (.string (bst (hdr 128 n))) ∧ Below W.heap.size W w') := fun W => phead_any false n W hz
 have KC : Hid (∀ W : World,∃ c W',(convert 9 22 (.string (bst (hdr 128 n ++ t)))).run Tryz.prog W = .ok (.slice (some ⟨W.heap.size,0,none⟩) (hdr 128 n ++ t).length c) W' ∧ Sl (hdr 128 n ++ t) (.slice (some ⟨W.heap.size,0,none⟩) (hdr 128 n ++ t).length c) W' ∧ Below W.heap.size W W') := fun W => str_sl _ W
 have HC : Hid (∀ W : World,(Op.stringOp .add (bst (hdr 128 n)) (bst t)).run Tryz.prog W = .ok (.string (bst (hdr 128 n ++ t))) W) := fun W => cat_bst _ _ (by have := hdr_9 128 n (by omega); omega) (by omega) W
 by_cases h1 : n = 1
 ·obtain ⟨c,rfl,hc⟩ := ht h1; subst h1; have d0 : decide ((c.toNat : Int) < 128) = false := decide_eq_false (by omega); have d1 : ¬ (c.toNat : Int) < 128 := by omega
  have e1 : bst [c] = ⟨#[c]⟩ := rfl; rw [e1] at q1 HC; have BH : Hid _ := B1; generalize bst (hdr 128 1 ++ [c]) = Z at *; generalize hdr 128 1 ++ [c] = E at *; generalize bst (hdr 128 1) = H at *; clear e1 ht hz hs hn B1 hc; go_enter Tryz.func87,Tryz.ntmps87
  go_wp2_with fail
  refine (KH.out _).mono (fun e w2 he => ?_)
  obtain ⟨rfl,b2⟩ := he; obtain ⟨k,W,hcv,h2,h3⟩ := KC.out w2; have HR : Hid (Sl E (.slice (some ⟨w2.heap.size,0,none⟩) E.length k) W ∧ Below w.heap.size w W ∧ Nw w.heap.size (.slice (some ⟨w2.heap.size,0,none⟩) E.length k)) := ⟨h2,(BH.out.trans (b2.mono BH.out.size)).trans (h3.mono (Nat.le_trans BH.out.size b2.size)),nw_at (Nat.le_trans BH.out.size b2.size)⟩; generalize E.length = L at *; have q3 := HC.out w2; clear h2 h3 b2 KC KH BH HC; go_wp2_with fail
  go_ret
  exact ⟨_,rfl,HR.out⟩
 ·have hX : (bst t).size = n := by rw [bst_size,hn]
  have d0 : ((n : Int) == 1) = false := beq_eq_false_iff_ne.2 (by omega); have d1 : ¬ (n : Int) = 1 := by omega
  have d2 : (n == 1) = false := beq_eq_false_iff_ne.2 h1; have BH : Hid _ := B1; generalize bst (hdr 128 n ++ t) = Z at *; generalize hdr 128 n ++ t = E at *; generalize bst (hdr 128 n) = H at *; generalize bst t = X at *; clear ht hz hs hn B1; go_enter Tryz.func87,Tryz.ntmps87
  go_wp2_with fail
  refine (KH.out _).mono (fun e w2 he => ?_)
  obtain ⟨rfl,b2⟩ := he; obtain ⟨k,W,hcv,h2,h3⟩ := KC.out w2; have HR : Hid (Sl E (.slice (some ⟨w2.heap.size,0,none⟩) E.length k) W ∧ Below w.heap.size w W ∧ Nw w.heap.size (.slice (some ⟨w2.heap.size,0,none⟩) E.length k)) := ⟨h2,(BH.out.trans (b2.mono BH.out.size)).trans (h3.mono (Nat.le_trans BH.out.size b2.size)),nw_at (Nat.le_trans BH.out.size b2.size)⟩; generalize E.length = L at *; have q3 := HC.out w2; clear h2 h3 b2 KC KH BH HC; go_wp2_with fail
  go_ret
  exact ⟨_,rfl,HR.out⟩
theorem pencode2_list (S : Nat → Prop) (ks : List It) (vs : List V3) (a1 a2 : Option Addr) (n1 c1 c2 n N : Nat) (T : ByteArray) (w : World) (hn : Hid (n = vs.length)) (hl : Hid (vs.length = ks.length)) (hk : Hid (Kx S vs (.slice a2 n c2) w)) (hi : Hid (∀ j,j < ks.length → Iv S w (ks.getD j It.no) (vs.getD j n3)))
  (hT : Hid (∀ W : World,Below w.heap.size w W → (convert 22 9 (.slice a1 n1 c1)).run Tryz.prog W = .ok (.string T) W))
  (IH : Hid (∀ j,j < ks.length → ∀ (v : V3) (w : World),Iv S w (ks.getD j It.no) v → Calls Tryz.prog 87 #[v3 v] w fun e w' => ∃ v,e = .returned v ∧ Sl (enc (ks.getD j It.no)) v w' ∧ Below w.heap.size w w')) (hN : Hid (N = (encs ks).length)) (hz : Hid (N ≤ 4194304)) :
  Calls Tryz.prog 87 #[.agg #[.bool true,.slice a1 n1 c1,.slice a2 n c2]] w fun e w' => ∃ v,e = .returned v ∧ Sl (hdr 192 N ++ encs ks) v w' ∧ Below w.heap.size w w' ∧ Nw w.heap.size v := by
 have B0 : Below w.heap.size w (w.alloc (.cells #[.bool true,.slice a1 n1 c1,.slice a2 n c2] 119)) := (Below.refl _ _).alloc (Nat.le_refl _) _; have hT0 := hT.out _ B0; go_enter Tryz.func87,Tryz.ntmps87
 go_wp2_with fail
 clear hT hT0; have hA := heap_alloc_new w (.cells #[.bool true,.slice a1 n1 c1,.slice a2 n c2] 119); have ht : (w.alloc (.cells #[.bool true,.slice a1 n1 c1,.slice a2 n c2] 119)).cell? ⟨w.heap.size,0,none⟩ = some (.bool true) := by simp only [World.cell?,hA]; rfl
 have hs : w.heap.size < (w.alloc (.cells #[.bool true,.slice a1 n1 c1,.slice a2 n c2] 119)).heap.size := by simp
 clear hA; generalize w.alloc (.cells #[.bool true,.slice a1 n1 c1,.slice a2 n c2] 119) = W0 at *; obtain ⟨g,eg⟩ : ∃ g,g = w.heap.size := ⟨_,rfl⟩; have EG : Hid (g = w.heap.size) := eg; rw [← eg] at B0 ht hs ⊢; clear eg; go_loopw [3,14] (fun s i wr => ∃ k : Nat,k ≤ n ∧ s = .string (bst (encs (ks.take k))) ∧ i = .int .i64 (k : Int) ∧ Below W0.heap.size W0 wr) (fun _ i _ => ((n : Int) - intOf i).toNat)
 case atStart => exact ⟨0,Nat.zero_le _,rfl,rfl,Below.refl _ _⟩
 case round =>
  obtain ⟨k,hkn,rfl,rfl,hB⟩ := hrel; by_cases hlt : k < n
  ·have d0 : decide ((k : Int) < (n : Int)) = true := decide_eq_true (by omega); have d1 : (0 : Int) ≤ (k : Int) := by omega
   have d2 : (k : Int) < (n : Int) := by omega
   have hks : k < ks.length := by have := hn.out; have := hl.out; omega
   obtain ⟨ao,cap,e2,-,hq⟩ := hk.out; obtain ⟨gk,off,rfl,-,hgk,hcell⟩ := hq (by have := hn.out; omega)
   injection e2 with e2 e2' e2''
   subst e2; clear e2' e2''; obtain ⟨x0,x1,x2⟩ := hcell k (by have := hn.out; omega)
   have iv := hi.out k hks; obtain ⟨l,b1,m1,q1,b2,m2,q2,ev⟩ := Iv_form iv; rw [ev] at x0 x1 x2 iv; have HC : Hid (∀ W : World,(Op.stringOp .add (bst (encs (ks.take k))) (bst (enc (ks.getD k It.no)))).run Tryz.prog W = .ok (.string (bst (encs (ks.take (k + 1))))) W) := fun W => by
    have h1 := encs_take ks k; have h2 := encs_one ks k hks; have h3 := hz.out; have h4 := hN.out; rw [cat_bst _ _ (by omega) (by omega),take_encs ks k hks]
   have KB : Hid (∀ w : World,Iv S w (ks.getD k It.no) (.bool l,.slice b1 m1 q1,.slice b2 m2 q2) → Calls Tryz.prog 87 #[.agg #[.bool l,.slice b1 m1 q1,.slice b2 m2 q2]] w fun e w' => ∃ v,e = .returned v ∧ Sl (enc (ks.getD k It.no)) v w' ∧ Below w.heap.size w w') := IH.out k hks (.bool l,.slice b1 m1 q1,.slice b2 m2 q2)
   have BW : Below w.heap.size w wr := (EG.out ▸ B0).trans (hB.mono (by have := EG.out; omega))
   have y0 := (BW.cell (p := ⟨gk,off + 3 * k,none⟩) hgk).trans x0; have y1 := (BW.cell (p := ⟨gk,off + 3 * k + 1,none⟩) hgk).trans x1; have y2 := (BW.cell (p := ⟨gk,off + 3 * k + 2,none⟩) hgk).trans x2; have hgk2 : gk < wr.heap.size := Nat.lt_of_lt_of_le hgk BW.size; rw [Nat.mul_comm 3 k] at y0 y1 y2; have IW : Hid (Iv S (wr.alloc (.cells #[.bool l,.slice b1 m1 q1,.slice b2 m2 q2] 119)) (ks.getD k It.no) (.bool l,.slice b1 m1 q1,.slice b2 m2 q2)) := Iv_below (Iv_gb (r := none) iv (gb_below BW) (fun _ _ => nofun)) ((Below.refl _ _).alloc (Nat.le_refl _) _)
   have B2 : Hid (Below W0.heap.size W0 (wr.alloc (.cells #[.bool l,.slice b1 m1 q1,.slice b2 m2 q2] 119))) := hB.alloc hB.size _; have e5 : Hid (wrap64 ((k : Int) + 1) = ((k + 1 : Nat) : Int)) := by
    have := hz.out; have := hN.out; have := encs_many ks; have := hn.out; have := hl.out; show _ = _; unfold wrap64; omega
   obtain ⟨Y,hY⟩ : ∃ Y,Y = bst (encs (ks.take (k + 1))) := ⟨_,rfl⟩; have HY : Hid (Y = bst (encs (ks.take (k + 1)))) := hY; rw [← hY] at HC; generalize bst (encs (ks.take k)) = X at *; clear hq hcell x0 x1 x2 ev hks iv BW hY; go_wp2_with fail
   refine (KB.out _ IW.out).mono (fun e w5 he => ?_)
   obtain ⟨v,rfl,hs5,b5⟩ := he; have B5 : Hid (Below W0.heap.size W0 w5) := B2.out.trans (b5.mono B2.out.size); have q5 := Sl_bst hs5; have q6 := HC.out w5; obtain ⟨a5,n5,rfl,-,-⟩ := hs5; generalize bst (enc (ks.getD k It.no)) = E5 at *; generalize (enc (ks.getD k It.no)).length = n6 at *; clear KB IW B2 y0 y1 y2 b5 HC; go_wp2_with fail
   rw [e5.out]; exact ⟨⟨k + 1,hlt,by rw [HY.out],rfl,B5.out⟩,msr_up k n hlt⟩
  ·have d0 : decide ((k : Int) < (n : Int)) = false := decide_eq_false (by omega); have ek : ks.take k = ks := List.take_of_length_le (by have := hn.out; have := hl.out; omega)
   rw [ek]; have ht2 : wr.cell? ⟨g,0,none⟩ = some (.bool true) := (hB.cell (p := ⟨g,0,none⟩) hs).trans ht; have hgw : g < wr.heap.size := Nat.lt_of_lt_of_le hs hB.size; have BF : Hid (Below w.heap.size w wr) := (EG.out ▸ B0).trans (hB.mono (by have := EG.out; omega))
   have hX : (bst (encs ks)).size = N := by rw [bst_size,hN.out]
   have KH : Hid (∀ W : World,Calls Tryz.prog 100 #[.int .i64 (N : Int),.bool true] W fun e w' => e = .returned (.string (bst (hdr 192 N))) ∧ Below W.heap.size W w') := fun W => phead_any true N W hz.out
   have KC : Hid (∀ W : World,∃ c W',(convert 9 22 (.string (bst (hdr 192 N ++ encs ks)))).run Tryz.prog W = .ok (.slice (some ⟨W.heap.size,0,none⟩) (hdr 192 N ++ encs ks).length c) W' ∧ Sl (hdr 192 N ++ encs ks) (.slice (some ⟨W.heap.size,0,none⟩) (hdr 192 N ++ encs ks).length c) W' ∧ Below W.heap.size W W') := fun W => str_sl _ W
   have HC : Hid (∀ W : World,(Op.stringOp .add (bst (hdr 192 N)) (bst (encs ks))).run Tryz.prog W = .ok (.string (bst (hdr 192 N ++ encs ks))) W) := fun W => cat_bst _ _ (by have := hdr_9 192 N (by have := hz.out; omega); omega) (by have := hz.out; have := hN.out; omega) W
   generalize bst (hdr 192 N ++ encs ks) = Z at *; obtain ⟨E,hE⟩ : ∃ E,E = hdr 192 N ++ encs ks := ⟨_,rfl⟩; have HE : Hid (E = hdr 192 N ++ encs ks) := hE; rw [← hE] at KC; clear hE; generalize bst (encs ks) = X at *; generalize bst (hdr 192 N) = H at *; clear ek; go_wp2_with fail
   refine (KH.out _).mono (fun e w2 he => ?_)
   obtain ⟨rfl,b2⟩ := he; obtain ⟨k2,W,hcv,h2,h3⟩ := KC.out w2; have HR : Hid (Sl (hdr 192 N ++ encs ks) (.slice (some ⟨w2.heap.size,0,none⟩) E.length k2) W ∧ Below w.heap.size w W ∧ Nw w.heap.size (.slice (some ⟨w2.heap.size,0,none⟩) E.length k2)) := ⟨HE.out ▸ h2,(BF.out.trans (b2.mono BF.out.size)).trans (h3.mono (Nat.le_trans BF.out.size b2.size)),nw_at (Nat.le_trans BF.out.size b2.size)⟩; clear HE; generalize E.length = L at *; have q3 := HC.out w2; clear h2 h3 b2 KC KH HC; go_wp2_with fail
   go_ret
   exact ⟨_,rfl,HR.out⟩
theorem pencode2_any (t : It) (hz : (enc t).length ≤ 1048576) (S : Nat → Prop) (v : V3) (w : World) (h : Iv S w t v) : Calls Tryz.prog 87 #[v3 v] w fun e w' => ∃ v,e = .returned v ∧ Sl (enc t) v w' ∧ Below w.heap.size w w' ∧ Nw w.heap.size v := by
 cases h with
 | mk l t ks tv kv vs ht hl hk hi =>
  have h7 := Ty_sl ht; obtain ⟨a1,c1,rfl,-,-⟩ := ht; have hk2 := hk; obtain ⟨a2,c2,rfl,-,-⟩ := hk; cases l with
  | false =>
   have hlen := enc_text_len t ks; by_cases h1 : ∃ c : UInt8,t = [c] ∧ c.toNat < 128
   ·obtain ⟨c,rfl,hc⟩ := h1; rw [enc_one c ks hc]; exact pencode2_one c a1 a2 _ c1 c2 w hc h7
   ·rw [enc_text t ks h1]; exact pencode2_head t t.length a1 a2 _ c1 c2 w rfl (by omega) h7 (fun e => by
     obtain ⟨c,rfl⟩ := List.length_eq_one_iff.1 e; refine ⟨c,rfl,?_⟩; rcases Nat.lt_or_ge c.toNat 128 with h | h
     ·exact absurd ⟨c,rfl,h⟩ h1
     ·exact h)
  | true =>
   have h1 : (encs ks).length ≤ (enc (.mk true t ks)).length := by
    unfold enc
    rw [List.length_append]; omega
   have e : enc (.mk true t ks) = hdr 192 (encs ks).length ++ encs ks := by unfold enc; rfl
   rw [e]; exact pencode2_list S ks vs a1 a2 _ c1 c2 vs.length (encs ks).length (bst t) w rfl hl hk2 hi (fun W hW => Sl_bst (Sl_below h7 hW)) (fun j hj v w h => pencode_any (wf_any _) (by have := encs_one ks j hj; omega) S v w h) rfl (by show _ ≤ _; omega)
end Pk
end Go.Proofs.YtlbdaccmnpcccaaGreatDoor
namespace Go.Proofs.YtlbdaccmnpcccaaGreatDoor
namespace Rt
open Nb Sp Pk Rs Go.RowKit
def CO (B : Nat) (X : Nat → Prop) (l : List (List UInt8)) (v : Value) (w : World) : Prop :=
 ∃ hs : List Value,hs.length = l.length ∧ w.ownsRow B 22 1 v l.length hs ∧ ∀ j,j < l.length → Ty (fun k => B ≤ k ∧ v.ownBlock ≠ some k ∧ X k) (l.getD j []) (hs.getD j undef) w
theorem CO_nil (B : Nat) (X : Nat → Prop) (w : World) : CO B X [] (.slice none 0 0) w := ⟨[],rfl,World.ownsRow_nil _ _ _ _,fun j hj => absurd hj (by simp)⟩
theorem CO_form {B : Nat} {X : Nat → Prop} {l : List (List UInt8)} {v : Value} {w : World} (h : CO B X l v w) : ∃ a c,v = .slice a l.length c ∧ l.length ≤ c := by
 obtain ⟨hs,_,ho,_⟩ := h; rcases ho.2 with ⟨h3,h4⟩ | ⟨g,cap,cur,h3,_,_,h6,_⟩
 ·exact ⟨none,0,by rw [h4]; exact h3,by omega⟩
 ·exact ⟨_,cap,h3,h6⟩
theorem CO_lt {B : Nat} {X : Nat → Prop} {l : List (List UInt8)} {v : Value} {w : World} (h : CO B X l v w) : ∀ g,v.ownBlock = some g → B ≤ g ∧ g < w.heap.size := by
 obtain ⟨hs,_,ho,_⟩ := h; exact ho.lt
theorem CO_below {B : Nat} {X : Nat → Prop} {l : List (List UInt8)} {v : Value} {w w' : World} (h : CO B X l v w) (hb : Below w.heap.size w w') : CO B X l v w' := by
 obtain ⟨hs,hl,ho,ht⟩ := h; exact ⟨hs,hl,ownb ho hb,fun j hj => Ty_gb (r := none) (ht j hj) (gb_below hb) (fun _ _ => nofun)⟩
theorem CO_mono {B : Nat} {X Y : Nat → Prop} {l : List (List UInt8)} {v : Value} {w : World} (h : CO B X l v w) (hY : ∀ k,B ≤ k → k < w.heap.size → X k → Y k) : CO B Y l v w := by
 obtain ⟨hs,hl,ho,ht⟩ := h; exact ⟨hs,hl,ho,fun j hj => Ty_mono (ht j hj) (fun k hk h2 => ⟨hk.1,hk.2.1,hY k hk.1 h2 hk.2.2⟩)⟩
theorem CO_gb {B : Nat} {X : Nat → Prop} {l : List (List UInt8)} {v : Value} {w w' : World} {r : Option Nat} (h : CO B X l v w) (hg : w.grownBy w' r) (hv : ∀ k,v.ownBlock = some k → some k ≠ r) (hX : ∀ k,B ≤ k → X k → some k ≠ r) : CO B X l v w' := by
 obtain ⟨hs,hl,ho,ht⟩ := h; refine ⟨hs,hl,ho.kept hg ?_,fun j hj => Ty_gb (ht j hj) hg (fun k hk => hX k hk.1 hk.2.2)⟩
 cases e : v.ownBlock with
 | none => exact .inl rfl
 | some t => exact .inr (fun hh => hv t e hh)
theorem CO_ls {B : Nat} {X : Nat → Prop} {l : List (List UInt8)} {v : Value} {w : World} (h : CO B X l v w) : Ls l v w := by
 obtain ⟨hs,hl,ho,ht⟩ := h; exact own_ls (by rw [hl]; exact ho) ⟨hl,fun i hi => Ty_sl (ht i hi)⟩
theorem CO_heads {B : Nat} {X : Nat → Prop} {l : List (List UInt8)} {v : Value} {w : World} (h : CO B X l v w) : ∃ hs : List Value,hs.length = l.length ∧ Vl hs v w ∧ ∀ j,j < l.length → Ty (fun k => B ≤ k ∧ v.ownBlock ≠ some k ∧ X k) (l.getD j []) (hs.getD j undef) w := by
 obtain ⟨hs,hl,ho,ht⟩ := h; refine ⟨hs,hl,?_,ht⟩; rcases ho.2 with ⟨h3,h4⟩ | ⟨g,cap,cur,h3,h4,h5,h6,h7,h8,h9⟩
 ·exact ⟨none,0,by rw [hl,h4]; exact h3,fun h0 => by omega⟩
 ·refine ⟨some ⟨g,0,none⟩,cap,by rw [hl]; exact h3,fun _ => ⟨g,0,rfl,Pk.lt_of_heap h5,fun j hj => ?_⟩⟩
  have e : w.cell? ⟨g,0 + j,none⟩ = cur[j]? := by
   rw [Nat.zero_add]; simp only [World.cell?,h5]; exact if_neg (by simp)
  rw [e,← Array.getElem?_toList,← h9,List.getElem?_take]; exact (if_pos (by omega)).symm
theorem ty_one {S : Nat → Prop} {b : List UInt8} {v : Value} {w : World} (h : Ty S b v w) : v.oneCell' = true := by
 obtain ⟨ao,cap,e,_⟩ := h; rw [e]; rfl
theorem CO_app {B : Nat} {X : Nat → Prop} {l m : List (List UInt8)} {v vb : Value} {ys : List Value} {w : World} (ty : TypeId) (h : CO B X l v w) (hv : Vl ys vb w) (hl : ys.length = m.length)
  (ht : ∀ j,j < m.length → Ty (fun k => B ≤ k ∧ v.ownBlock ≠ some k ∧ X k) (m.getD j []) (ys.getD j undef) w) (hB : B ≤ w.heap.size) (hn : l.length + m.length ≤ 4194304) :
  ∃ v' w',(Builtin.append_ #[26,26] ty #[v,vb]).run Tryz.prog w = .ok v' w' ∧ CO B X (l ++ m) v' w' ∧ w.grownBy w' v.ownBlock ∧ (∀ g,v'.ownBlock = some g → v.ownBlock = some g ∨ g = w.heap.size) := by
 obtain ⟨i0,hi,hz0,hz1,hz2⟩ := info_parts info_r; obtain ⟨hs,hl0,ho,ht0⟩ := h; have h1 : ∀ u ∈ ys,u.oneCell' = true := fun u hu => by
  obtain ⟨j,hj,rfl⟩ := List.getElem_of_mem hu; have := ht j (by omega); rw [List.getD_eq_getElem?_getD (l := ys),List.getElem?_eq_getElem hj] at this; exact ty_one this
 by_cases h0 : 0 < ys.length
 ·obtain ⟨gv,off,cap,rfl,hc⟩ := vl_cells hv h0; obtain ⟨G,cap',w',hr,h7,hgr,hG,_⟩ := run_append_lies (P := Tryz.prog) w 26 ty B 22 i0 (.slice none 0 0) 1 24 Tryz.underlying26 hi hz0 hz1 hz2 rfl (by decide) v l.length hs ho ⟨gv,off,none⟩ ys.length cap ys (by rw [Nat.mul_one]) hc h1 h0 (by unfold maxLen; omega) (by omega) hB _ rfl
  have hS : ∀ k,k < w.heap.size → v.ownBlock ≠ some k → (Value.slice (some ⟨G,0,none⟩) (l.length + ys.length) cap').ownBlock ≠ some k := fun k hk hne e => by
   have e : G = k := by simpa [Value.ownBlock] using e
   subst e; rcases hG with hG | hG
   ·exact hne hG
   ·omega
  refine ⟨_,w',hr,⟨hs ++ ys,by rw [List.length_append,List.length_append,hl0,hl],?_,fun j hj => ?_⟩,hgr,fun g hg => ?_⟩
  ·rw [List.length_append,← hl]; exact h7
  ·rw [List.length_append] at hj; by_cases e : j < l.length
   ·have e1 : (l ++ m).getD j [] = l.getD j [] := by simp [List.getD_eq_getElem?_getD,List.getElem?_append_left e]
    have e2 : (hs ++ ys).getD j undef = hs.getD j undef := by simp [List.getD_eq_getElem?_getD,List.getElem?_append_left (hl0 ▸ e)]
    rw [e1,e2]; exact Ty_mono (Ty_gb (Ty_mono (S' := fun k => (B ≤ k ∧ (Value.slice (some ⟨G,0,none⟩) (l.length + ys.length) cap').ownBlock ≠ some k ∧ X k) ∧ v.ownBlock ≠ some k) (ht0 j e) (fun k hk h2 => ⟨⟨hk.1,hS k h2 hk.2.1,hk.2.2⟩,hk.2.1⟩)) hgr (fun k hk e => hk.2 e.symm)) (fun k hk _ => hk.1)
   ·have e1 : (l ++ m).getD j [] = m.getD (j - l.length) [] := by simp [List.getD_eq_getElem?_getD,List.getElem?_append_right (show l.length ≤ j by omega)]
    have e2 : (hs ++ ys).getD j undef = ys.getD (j - l.length) undef := by simp [List.getD_eq_getElem?_getD,List.getElem?_append_right (show hs.length ≤ j by omega),hl0]
    rw [e1,e2]; exact Ty_mono (Ty_gb (Ty_mono (S' := fun k => (B ≤ k ∧ (Value.slice (some ⟨G,0,none⟩) (l.length + ys.length) cap').ownBlock ≠ some k ∧ X k) ∧ v.ownBlock ≠ some k) (ht (j - l.length) (by omega)) (fun k hk h2 => ⟨⟨hk.1,hS k h2 hk.2.1,hk.2.2⟩,hk.2.1⟩)) hgr (fun k hk e => hk.2 e.symm)) (fun k hk _ => hk.1)
  ·have e : G = g := by simpa [Value.ownBlock] using hg
   subst e; exact hG
 ·have e : ys = [] := List.length_eq_zero_iff.1 (by omega); subst e; have em : m = [] := List.length_eq_zero_iff.1 hl.symm; subst em; rw [List.append_nil]; obtain ⟨ao,cap,rfl,_⟩ := hv; refine ⟨v,w,?_,⟨hs,hl0,ho,ht0⟩,gb_refl w _,fun g hg => .inl hg⟩
  have hsr : Src Tryz.prog i0.size 26 (.slice ao 0 cap) 0 [] w := by
   cases ao with
   | none => exact Src.ofNil w Tryz.underlying26 cap
   | some ad => exact Src.ofSlice w Tryz.underlying26 ad 0 cap [] (by simp) (fun j u hj => by simp at hj) (fun u hu => by cases hu)
  rcases ho.2 with ⟨h3,h4⟩ | ⟨g',cap',cur,h3,h5⟩
  ·subst h3; exact run_append_nothing w 26 26 ty 22 i0 Tryz.underlying26 hi none 0 0 (Nat.le_refl _) _ hsr
  ·subst h3; exact run_append_nothing w 26 26 ty 22 i0 Tryz.underlying26 hi _ _ _ h5.2.2.1 _ hsr
end Rt
end Go.Proofs.YtlbdaccmnpcccaaGreatDoor
namespace Go.Proofs.YtlbdaccmnpcccaaGreatDoor
namespace Rs
open Nb Sp Pk Go.RowKit
theorem hcode2_walk (kk : Int) (a1 a2 a3 : Option Addr) (n1 c1 n2 c2 n3 c3 : Nat) (w : World) (R : Bool) (t : It) (ht : Hid (R = true → (enc t).length ≤ 1048576))
  (KS : Hid (∀ wx : World,Below w.heap.size w wx → Calls Tryz.prog 86 #[.agg #[.int .i64 kk,.slice a1 n1 c1,.slice a2 n2 c2,.slice a3 n3 c3]] wx fun e w' => ∃ v,e = .returned (.tuple #[v3 v,.bool R]) ∧ (R = true → Iv (fun _ => True) w' t v) ∧ Below wx.heap.size wx w' ∧ Fm v)) :
  Calls Tryz.prog 69 #[.agg #[.int .i64 kk,.slice a1 n1 c1,.slice a2 n2 c2,.slice a3 n3 c3]] w fun e w' => ∃ v,e = .returned (.tuple #[v,.int .i64 (if R then 0 else 1)]) ∧ Sl (if R then enc t else []) v w' ∧ Below w.heap.size w w' ∧ Nw w.heap.size v := by
 have HB : Hid (Below w.heap.size w (w.alloc (.cells #[.int .i64 kk,.slice a1 n1 c1,.slice a2 n2 c2,.slice a3 n3 c3] 63))) := (Below.refl _ _).alloc (Nat.le_refl _) _; go_enter Tryz.func69,Tryz.ntmps69
 go_wp2_with fail
 refine (KS.out _ HB.out).mono ?_; rintro e w1 ⟨v,rfl,hiv,hb,l,b1,m1,d1,b2,m2,d2,rfl⟩; have HL1 : Hid (Below w.heap.size w w1) := HB.out.trans (hb.mono HB.out.size); cases R with
 | false =>
  have HL2 : Hid (Below w.heap.size w (w1.alloc (.cells #[.bool l,.slice b1 m1 d1,.slice b2 m2 d2] 119))) := HL1.out.alloc HL1.out.size _; clear hiv hb KS HB HL1 ht; dsimp only [v3]; go_wp2_with fail
  go_ret2
  exact ⟨_,rfl,Sl_nil _,HL2.out,nofun⟩
 | true =>
  have bA : Below w1.heap.size w1 (w1.alloc (.cells #[.bool l,.slice b1 m1 d1,.slice b2 m2 d2] 119)) := (Below.refl _ _).alloc (Nat.le_refl _) _; have HL2 : Hid (Below w.heap.size w (w1.alloc (.cells #[.bool l,.slice b1 m1 d1,.slice b2 m2 d2] 119))) := HL1.out.alloc HL1.out.size _; have KE : Hid (Calls Tryz.prog 87 #[.agg #[.bool l,.slice b1 m1 d1,.slice b2 m2 d2]] (w1.alloc (.cells #[.bool l,.slice b1 m1 d1,.slice b2 m2 d2] 119)) fun e w' => ∃ v,e = .returned v ∧ Sl (enc t) v w' ∧ Below w.heap.size w w' ∧ Nw w.heap.size v) :=
   (pencode2_any t (ht.out rfl) (fun _ => True) (.bool l,.slice b1 m1 d1,.slice b2 m2 d2) _ (Iv_below (hiv rfl) bA)).mono fun e w' he => by
    obtain ⟨v,h1,h2,h3,h4⟩ := he; exact ⟨v,h1,h2,HL2.out.trans (h3.mono HL2.out.size),fun a ha => Nat.le_trans HL2.out.size (h4 a ha)⟩
  clear hiv hb KS HB HL1 ht bA HL2; dsimp only [v3]; go_wp2_with fail
  refine KE.out.mono ?_; rintro e w3 ⟨v,rfl,h2,h3,h4⟩; have HZ : Hid (Sl (enc t) v w3 ∧ Below w.heap.size w w3 ∧ Nw w.heap.size v) := ⟨h2,h3,h4⟩; clear h2 h3 h4 KE; go_wp2_with fail
  go_ret2
  exact ⟨_,rfl,HZ.out.1,HZ.out.2⟩
theorem hcode2_any (s : Shp) (x : V4) (w : World) (h : Sh s x w) (hp : s.2.1.length ≤ 4194300) (hE : isS s = true → (enc (itS s)).length ≤ 1048576) :
  Calls Tryz.prog 69 #[v4 x] w fun e w' => ∃ v,e = .returned (.tuple #[v,.int .i64 (he s)]) ∧ Sl (hc s) v w' ∧ Below w.heap.size w w' ∧ Nw w.heap.size v := by
 obtain ⟨a1,c1,a2,c2,a3,c3,e⟩ := Sh_form h; have KS := fun (wx : World) (hb : Below w.heap.size w wx) => shapeitem_any s x wx (Sh_below h hb) hp
 subst e; exact hcode2_walk s.1 a1 a2 a3 _ c1 _ c2 _ c3 w (isS s) (itS s) hE (fun wx hb => (KS wx hb).mono fun e w' hh => by
  obtain ⟨v,h1,h2,h3⟩ := hh; exact ⟨v,h1,h2,h3⟩)
end Rs
end Go.Proofs.YtlbdaccmnpcccaaGreatDoor
namespace Go.Proofs.YtlbdaccmnpcccaaGreatDoor
namespace Rs
open Nb Sp Pk Go.RowKit
theorem infoSh : (Tryz.prog.info? 63).map (·.size) = some 4 := by kernel_rfl
structure BS (G : Nat) (w : World) : Prop where
 hi : G < w.heap.size
 c : ∀ o,o < 4 → (w.cell? ⟨G,o,none⟩).isSome = true
 f : ∀ o,w.frozen? ⟨G,o,none⟩ = false
 n : ∀ o x,w.cell? ⟨G,o,none⟩ ≠ some (.int .u8 x)
theorem BS_nb {G : Nat} {w : World} (h : BS G w) : NB G w := ⟨h.hi,h.n⟩
theorem BS_gb {G : Nat} {w w' : World} {r : Option Nat} (h : BS G w) (hb : w.grownBy w' r) (hr : some G ≠ r) : BS G w' := by
 have hbk : w'.heap[G]? = w.heap[G]? := hb.block G h.hi hr; exact ⟨Nat.lt_of_lt_of_le h.hi hb.size,fun o ho => by rw [World.cell?_of_block (a := ⟨G,o,none⟩) hbk]; exact h.c o ho,fun o => (World.frozen?_of_block (a := ⟨G,o,none⟩) hbk).trans (h.f o),fun o x => by rw [World.cell?_of_block (a := ⟨G,o,none⟩) hbk]; exact h.n o x⟩
theorem BS_new (w : World) : BS w.heap.size (w.alloc (.cells #[.int .i64 0,.slice none 0 0,.slice none 0 0,.slice none 0 0] 63)) := by
 have hn := heap_alloc_new w (.cells #[.int .i64 0,.slice none 0 0,.slice none 0 0,.slice none 0 0] 63); have hc : ∀ o,(w.alloc (.cells #[.int .i64 0,.slice none 0 0,.slice none 0 0,.slice none 0 0] 63)).cell? ⟨w.heap.size,o,none⟩ = (#[Value.int .i64 0,.slice none 0 0,.slice none 0 0,.slice none 0 0])[o]? := fun o => by
  simp only [World.cell?,hn]; exact if_neg (by decide)
 refine ⟨by simp,fun o ho => ?_,fun o => by simp only [World.frozen?,hn]; simp,fun o x h => ?_⟩
 ·rw [hc]; have : o = 0 ∨ o = 1 ∨ o = 2 ∨ o = 3 := by omega
  rcases this with rfl | rfl | rfl | rfl <;> rfl
 ·rw [hc] at h; match o with
  | 0 => simp at h
  | 1 => simp at h
  | 2 => simp at h
  | 3 => simp at h
  | n + 4 => simp at h
theorem Sl_gb {G : Nat} {b : List UInt8} {v : Value} {w w' : World} (h : Sl b v w) (hG : NB G w) (hg : w.grownBy w' (some G)) : Sl b v w' := by
 obtain ⟨ao,cap,h1,h2,h3⟩ := h; refine ⟨ao,cap,h1,h2,fun h0 => ?_⟩
 obtain ⟨g,off,e,hlt,hc⟩ := h3 h0; have n1 : g ≠ G := fun e2 => by subst e2; exact hG.2 _ _ (hc 0 h0)
 exact ⟨g,off,e,Nat.lt_of_lt_of_le hlt hg.size,fun j hj => (World.cell?_of_block (a := ⟨g,off + j,none⟩) (hg.block g hlt (fun e3 => by injection e3 with e3; exact n1 e3))).trans (hc j hj)⟩
theorem Ls_gb {G : Nat} {ps : List (List UInt8)} {v : Value} {w w' : World} (h : Ls ps v w) (hG : NB G w) (hv : v.ownBlock ≠ some G) (hg : w.grownBy w' (some G)) : Ls ps v w' := by
 obtain ⟨ao,cap,h1,h3⟩ := h; refine ⟨ao,cap,h1,fun h0 => ?_⟩
 obtain ⟨g,off,e,hlt,hc⟩ := h3 h0; have n1 : g ≠ G := fun e2 => by subst e2; apply hv; rw [h1,e]; rfl
 refine ⟨g,off,e,Nat.lt_of_lt_of_le hlt hg.size,fun i hi => ?_⟩
 obtain ⟨vi,k1,k2⟩ := hc i hi; exact ⟨vi,(World.cell?_of_block (a := ⟨g,off + i,none⟩) (hg.block g hlt (fun e3 => by injection e3 with e3; exact n1 e3))).trans k1,Sl_gb k2 hG hg⟩
theorem Sh_gb {G : Nat} {s : Shp} {v : V4} {w w' : World} (h : Sh s v w) (hG : NB G w) (hv : v.2.2.2.ownBlock ≠ some G) (hg : w.grownBy w' (some G)) : Sh s v w' :=
 ⟨h.1,Sl_gb h.2.1 hG hg,Sl_gb h.2.2.1 hG hg,Ls_gb h.2.2.2 hG hv hg⟩
theorem Ls_nil' (w : World) : Ls [] (.slice none 0 0) w := ⟨none,0,rfl,fun h => absurd h (by decide)⟩
end Rs
end Go.Proofs.YtlbdaccmnpcccaaGreatDoor
namespace Go.Proofs.YtlbdaccmnpcccaaGreatDoor
namespace Rt
open Nb Sp Pk Rs Go.RowKit
theorem BS_set1 {G o : Nat} {w : World} {v : Value} (h : BS G w) (ho : o < 4) (hv : ∀ x,v ≠ .int .u8 x) : BS G (w.setCell ⟨G,o,none⟩ v) := by
 refine ⟨by rw [show (w.setCell ⟨G,o,none⟩ v).heap.size = w.heap.size by simp [World.setCell]]; exact h.hi,fun j hj => ?_,fun j => by rw [World.frozen?_setCell]; exact h.f j,fun j x => ?_⟩
 ·by_cases e : j = o
  ·subst e; obtain ⟨u,hu⟩ := Option.isSome_iff_exists.1 (h.c j hj); rw [World.cell?_setCell_same w ⟨G,j,none⟩ v hu]; rfl
  ·rw [cell_set_ne w G o j v e]; exact h.c j hj
 ·by_cases e : j = o
  ·subst e; obtain ⟨u,hu⟩ := Option.isSome_iff_exists.1 (h.c j ho); rw [World.cell?_setCell_same w ⟨G,j,none⟩ v hu]; exact fun e2 => hv x (by injection e2)
  ·rw [cell_set_ne w G o j v e]; exact h.n j x
theorem BS_sets {G : Nat} {w : World} {k : Int} {a1 a2 a3 : Option Addr} {n1 c1 n2 c2 n3 c3 : Nat} (h : BS G w) : BS G (w.setCells G 0 [.int .i64 k,.slice a1 n1 c1,.slice a2 n2 c2,.slice a3 n3 c3]) := by
 have e : w.setCells G 0 [.int .i64 k,.slice a1 n1 c1,.slice a2 n2 c2,.slice a3 n3 c3] = (((w.setCell ⟨G,0,none⟩ (.int .i64 k)).setCell ⟨G,1,none⟩ (.slice a1 n1 c1)).setCell ⟨G,2,none⟩ (.slice a2 n2 c2)).setCell ⟨G,3,none⟩ (.slice a3 n3 c3) := rfl; rw [e]; exact BS_set1 (BS_set1 (BS_set1 (BS_set1 h (by decide) (fun x e => by injection e with e; cases e)) (by decide) nofun) (by decide) nofun) (by decide) nofun
theorem wpList_stB {ops : Array Oper} {rest : List Oper} {op : Oper} {a : Act} {w : World} {Q : Exit → Act → World → Prop} {x y : Operand} {G : Nat} {k : Int} {a1 a2 a3 : Option Addr} {n1 c1 n2 c2 n3 c3 : Nat} (hgd : op.guard = none) (ho : op.op = .store 63 x y)
  (hx : a.eval x = .pointer (some ⟨G,0,none⟩)) (hy : a.eval y = .agg #[.int .i64 k,.slice a1 n1 c1,.slice a2 n2 c2,.slice a3 n3 c3]) (hB : BS G w)
  (h : ∀ w',w.grownBy w' (some G) → BS G w' → w'.cell? ⟨G,0,none⟩ = some (.int .i64 k) → w'.cell? ⟨G,1,none⟩ = some (.slice a1 n1 c1) → w'.cell? ⟨G,2,none⟩ = some (.slice a2 n2 c2) → w'.cell? ⟨G,3,none⟩ = some (.slice a3 n3 c3) → wpList Tryz.prog ops Q rest (a.put op.dst undef) w') : wpList Tryz.prog ops Q (op :: rest) a w := by
 have ht : w.there G 0 4 := fun j hj => by rw [Nat.zero_add]; exact ⟨hB.c j hj,hB.f j⟩
 have hs := World.rangeAt_setCells_same w G 0 [.int .i64 k,.slice a1 n1 c1,.slice a2 n2 c2,.slice a3 n3 c3] ht; refine wpList_store_mid hgd 63 x y ho G 0 #[.int .i64 k,.slice a1 n1 c1,.slice a2 n2 c2,.slice a3 n3 c3] hx hy ht infoSh (all_oneCell_toArray (cs := [.int .i64 k,.slice a1 n1 c1,.slice a2 n2 c2,.slice a3 n3 c3]) (fun v hv => by simp only [List.mem_cons,List.not_mem_nil,or_false] at hv; rcases hv with rfl | rfl | rfl | rfl <;> rfl)) ?_
 exact h _ (Pk.gb_sets G _ 0 w) (BS_sets hB) (hs 0 _ rfl) (hs 1 _ rfl) (hs 2 _ rfl) (hs 3 _ rfl)
theorem own_vl {B : Nat} {l : List (List UInt8)} {hs : List Value} {v : Value} {w : World} (hl : hs.length = l.length) (ho : w.ownsRow B 22 1 v l.length hs) : Vl hs v w := by
 rcases ho.2 with ⟨h3,h4⟩ | ⟨g,cap,cur,h3,h4,h5,h6,h7,h8,h9⟩
 ·exact ⟨none,0,by rw [hl,h4]; exact h3,fun h0 => by omega⟩
 ·refine ⟨some ⟨g,0,none⟩,cap,by rw [hl]; exact h3,fun _ => ⟨g,0,rfl,Pk.lt_of_heap h5,fun j hj => ?_⟩⟩
  have e : w.cell? ⟨g,0 + j,none⟩ = cur[j]? := by
   rw [Nat.zero_add]; simp only [World.cell?,h5]; exact if_neg (by simp)
  rw [e,← Array.getElem?_toList,← h9,List.getElem?_take]; exact (if_pos (by omega)).symm
theorem CO_one {B : Nat} {c : List UInt8} {v : Value} {w : World} (hB : B ≤ w.heap.size) (h : Ty (B ≤ ·) c v w) : CO B (fun _ => True) [c] (.slice (some ⟨w.heap.size,0,none⟩) 1 1) (w.alloc (.cells #[v] 22)) := by
 refine ⟨[v],rfl,⟨rfl,.inr ⟨w.heap.size,1,#[v],rfl,hB,heap_alloc_new _ _,Nat.le_refl _,by unfold maxLen; omega,rfl,rfl⟩⟩,fun j hj => ?_⟩
 have : j = 0 := by simp at hj; omega
 subst this; have bA : Below w.heap.size w (w.alloc (.cells #[v] 22)) := (Below.refl _ _).alloc (Nat.le_refl _) _; exact Ty_gb (r := none) (Ty_mono h (fun k hk h2 => ⟨hk,(fun e => by
  have : w.heap.size = k := by simpa [Value.ownBlock] using e
  omega),trivial⟩)) (gb_below bA) (fun _ _ => nofun)
theorem CO_cons {B : Nat} {X : Nat → Prop} {c : List UInt8} {l : List (List UInt8)} {v rv : Value} {w : World} (ty : TypeId) (hB : B ≤ w.heap.size) (h : Ty (B ≤ ·) c v w) (hr : CO B X l rv w) (hn : l.length ≤ 4194300) :
  ∃ v' w',(Builtin.append_ #[26,26] ty #[.slice (some ⟨w.heap.size,0,none⟩) 1 1,rv]).run Tryz.prog (w.alloc (.cells #[v] 22)) = .ok v' w' ∧ CO B (fun _ => True) (c :: l) v' w' ∧ Below w.heap.size w w' := by
 have bA : Below w.heap.size w (w.alloc (.cells #[v] 22)) := (Below.refl _ _).alloc (Nat.le_refl _) _; have hs1 : (w.alloc (.cells #[v] 22)).heap.size = w.heap.size + 1 := by simp
 have hlt : ∀ k,k < w.heap.size → (Value.slice (some ⟨w.heap.size,0,none⟩) 1 1).ownBlock ≠ some k := fun k hk e => by
  have : w.heap.size = k := by simpa [Value.ownBlock] using e
  omega
 obtain ⟨hs2,hl2,ho2,ht2⟩ := hr; have vl2 : Vl hs2 rv (w.alloc (.cells #[v] 22)) := Vl_below (own_vl hl2 ho2) bA; obtain ⟨v',w',hap,co,hgr,_⟩ := CO_app (m := l) ty (CO_one hB h) vl2 hl2 (fun j hj => Ty_gb (r := none) (Ty_mono (ht2 j hj) (fun k hk h2 => ⟨hk.1,hlt k h2,trivial⟩)) (gb_below bA) (fun _ _ => nofun)) (by omega) (by simp; omega)
 exact ⟨v',w',hap,co,bA.trans ⟨hgr.os,hgr.tape,hgr.output,hgr.size,fun j hj => hgr.block j (by omega) (fun e => by
  have e2 : (some j : Option Nat) = some w.heap.size := e; injection e2 with e2
  omega)⟩⟩
def TC (w : World) (l : List (List UInt8)) (e : Ending) (w' : World) : Prop := ∃ v,e = .returned v ∧ CO w.heap.size (fun _ => True) l v w' ∧ Below w.heap.size w w'
theorem tc_leaf (a1 a2 a3 : Option Addr) (n1 c1 n2 c2 n3 c3 : Nat) (w : World) (z : Int) (p u : List UInt8) (hp : Hid (Sl p (.slice a1 n1 c1) w)) (hu : Hid (Sl u (.slice a2 n2 c2) w)) (C : List UInt8) (KH : Hid (∀ wx : World,Sh (1,p,u,[]) (.int .i64 1,.slice a1 n1 c1,.slice a2 n2 c2,.slice none 0 0) wx → Calls Tryz.prog 69 #[.agg #[.int .i64 1,.slice a1 n1 c1,.slice a2 n2 c2,.slice none 0 0]] wx fun e w' => ∃ v,e = .returned (.tuple #[v,.int .i64 z]) ∧ Sl C v w' ∧ Below wx.heap.size wx w' ∧ Nw wx.heap.size v)) :
  Calls Tryz.prog 44 #[.agg #[.int .i64 1,.slice a1 n1 c1,.slice a2 n2 c2,.slice a3 n3 c3]] w (TC w [C]) := by
 have l0 : Below w.heap.size w ((w.alloc (.cells #[.int .i64 1,.slice a1 n1 c1,.slice a2 n2 c2,.slice a3 n3 c3] 25)).alloc (.cells #[.int .i64 0,.slice none 0 0,.slice none 0 0,.slice none 0 0] 63)) := ((Below.refl _ _).alloc (Nat.le_refl _) _).alloc (by simp) _; have hs1 : (w.alloc (.cells #[.int .i64 1,.slice a1 n1 c1,.slice a2 n2 c2,.slice a3 n3 c3] 25)).heap.size = w.heap.size + 1 := by simp
 have x0 : BS (w.heap.size + 1) ((w.alloc (.cells #[.int .i64 1,.slice a1 n1 c1,.slice a2 n2 c2,.slice a3 n3 c3] 25)).alloc (.cells #[.int .i64 0,.slice none 0 0,.slice none 0 0,.slice none 0 0] 63)) := hs1 ▸ BS_new (w.alloc (.cells #[.int .i64 1,.slice a1 n1 c1,.slice a2 n2 c2,.slice a3 n3 c3] 25)); have hbn := heap_alloc_new (w.alloc (.cells #[.int .i64 1,.slice a1 n1 c1,.slice a2 n2 c2,.slice a3 n3 c3] 25)) (.cells #[.int .i64 0,.slice none 0 0,.slice none 0 0,.slice none 0 0] 63); have HA := heap_alloc_new w (.cells #[.int .i64 1,.slice a1 n1 c1,.slice a2 n2 c2,.slice a3 n3 c3] 25); have bB : Below (w.heap.size + 1) (w.alloc (.cells #[.int .i64 1,.slice a1 n1 c1,.slice a2 n2 c2,.slice a3 n3 c3] 25)) ((w.alloc (.cells #[.int .i64 1,.slice a1 n1 c1,.slice a2 n2 c2,.slice a3 n3 c3] 25)).alloc (.cells #[.int .i64 0,.slice none 0 0,.slice none 0 0,.slice none 0 0] 63)) := (Below.refl _ _).alloc (by omega) _; have q0 : ((w.alloc (.cells #[.int .i64 1,.slice a1 n1 c1,.slice a2 n2 c2,.slice a3 n3 c3] 25)).alloc (.cells #[.int .i64 0,.slice none 0 0,.slice none 0 0,.slice none 0 0] 63)).cell? ⟨w.heap.size,0,none⟩ = some (.int .i64 1) := (bB.cell (p := ⟨w.heap.size,0,none⟩) (by show w.heap.size < _; omega)).trans (by simp only [World.cell?,HA]; rfl)
 have q1 : ((w.alloc (.cells #[.int .i64 1,.slice a1 n1 c1,.slice a2 n2 c2,.slice a3 n3 c3] 25)).alloc (.cells #[.int .i64 0,.slice none 0 0,.slice none 0 0,.slice none 0 0] 63)).cell? ⟨w.heap.size,1,none⟩ = some (.slice a1 n1 c1) := (bB.cell (p := ⟨w.heap.size,1,none⟩) (by show w.heap.size < _; omega)).trans (by simp only [World.cell?,HA]; rfl)
 have q2 : ((w.alloc (.cells #[.int .i64 1,.slice a1 n1 c1,.slice a2 n2 c2,.slice a3 n3 c3] 25)).alloc (.cells #[.int .i64 0,.slice none 0 0,.slice none 0 0,.slice none 0 0] 63)).cell? ⟨w.heap.size,2,none⟩ = some (.slice a2 n2 c2) := (bB.cell (p := ⟨w.heap.size,2,none⟩) (by show w.heap.size < _; omega)).trans (by simp only [World.cell?,HA]; rfl)
 have q3 : ((w.alloc (.cells #[.int .i64 1,.slice a1 n1 c1,.slice a2 n2 c2,.slice a3 n3 c3] 25)).alloc (.cells #[.int .i64 0,.slice none 0 0,.slice none 0 0,.slice none 0 0] 63)).cell? ⟨w.heap.size,3,none⟩ = some (.slice a3 n3 c3) := (bB.cell (p := ⟨w.heap.size,3,none⟩) (by show w.heap.size < _; omega)).trans (by simp only [World.cell?,HA]; rfl)
 have y0 : ((w.alloc (.cells #[.int .i64 1,.slice a1 n1 c1,.slice a2 n2 c2,.slice a3 n3 c3] 25)).alloc (.cells #[.int .i64 0,.slice none 0 0,.slice none 0 0,.slice none 0 0] 63)).cell? ⟨w.heap.size + 1,0,none⟩ = some (.int .i64 0) := by rw [hs1] at hbn; simp only [World.cell?,hbn]; rfl
 have y1 : ((w.alloc (.cells #[.int .i64 1,.slice a1 n1 c1,.slice a2 n2 c2,.slice a3 n3 c3] 25)).alloc (.cells #[.int .i64 0,.slice none 0 0,.slice none 0 0,.slice none 0 0] 63)).cell? ⟨w.heap.size + 1,1,none⟩ = some (.slice none 0 0) := by rw [hs1] at hbn; simp only [World.cell?,hbn]; rfl
 have y2 : ((w.alloc (.cells #[.int .i64 1,.slice a1 n1 c1,.slice a2 n2 c2,.slice a3 n3 c3] 25)).alloc (.cells #[.int .i64 0,.slice none 0 0,.slice none 0 0,.slice none 0 0] 63)).cell? ⟨w.heap.size + 1,2,none⟩ = some (.slice none 0 0) := by rw [hs1] at hbn; simp only [World.cell?,hbn]; rfl
 have y3 : ((w.alloc (.cells #[.int .i64 1,.slice a1 n1 c1,.slice a2 n2 c2,.slice a3 n3 c3] 25)).alloc (.cells #[.int .i64 0,.slice none 0 0,.slice none 0 0,.slice none 0 0] 63)).cell? ⟨w.heap.size + 1,3,none⟩ = some (.slice none 0 0) := by rw [hs1] at hbn; simp only [World.cell?,hbn]; rfl
 have hsz : ((w.alloc (.cells #[.int .i64 1,.slice a1 n1 c1,.slice a2 n2 c2,.slice a3 n3 c3] 25)).alloc (.cells #[.int .i64 0,.slice none 0 0,.slice none 0 0,.slice none 0 0] 63)).heap.size = w.heap.size + 2 := by simp
 clear HA bB hs1 hbn; go_enter Tryz.func44,Tryz.ntmps44
 go_upto_region 3 with fail
 generalize ((w.alloc (.cells #[.int .i64 1,.slice a1 n1 c1,.slice a2 n2 c2,.slice a3 n3 c3] 25)).alloc (.cells #[.int .i64 0,.slice none 0 0,.slice none 0 0,.slice none 0 0] 63)) = W0 at *; obtain ⟨h,eh⟩ : ∃ h,h = w.heap.size := ⟨_,rfl⟩; have EH : Hid (h = w.heap.size) := eh; have L0 : Hid (Below w.heap.size w W0) := l0; have X0 : Hid (BS (h + 1) W0) := eh ▸ x0; have HSZ : Hid (W0.heap.size = h + 2) := by show _ = _; rw [eh]; exact hsz
 rw [← eh] at q0 q1 q2 q3 y0 y1 y2 y3 ⊢; clear eh l0 x0 hsz; have x1 := X0.out; have HS0 : Sh (1,p,u,[]) (.int .i64 1,.slice a1 n1 c1,.slice a2 n2 c2,.slice none 0 0) W0 := ⟨rfl,Sl_below hp.out L0.out,Sl_below hu.out L0.out,Ls_nil' _⟩; have SH1 : Hid (Sh (1,p,u,[]) (.int .i64 1,.slice a1 n1 c1,.slice a2 n2 c2,.slice none 0 0) W0) := HS0; clear HS0; go_upto_region 5 with fail
 go_wp2_with (refine wpList_stB rfl rfl rfl rfl x1 ?_)
 intro w1 g1 xb z0 z1 z2 z3; have LL := L0.out; have L1 : Hid (Below w.heap.size w w1) := LL.trans ⟨g1.os,g1.tape,g1.output,g1.size,fun j hj => g1.block j (by have := LL.size; omega) (fun e => by injection e with e; have := EH.out; omega)⟩
 have S1 : Hid (Sh (1,p,u,[]) (.int .i64 1,.slice a1 n1 c1,.slice a2 n2 c2,.slice none 0 0) w1) := Sh_gb SH1.out (BS_nb x1) nofun g1; clear g1 xb x1 LL SH1 y0 y1 y2 y3 q0 q1 q2 q3; go_wp2_with fail
 refine (KH.out _ S1.out).mono ?_; rintro e w5 ⟨v,rfl,sc,bc,nc⟩; obtain ⟨ca,cc,rfl⟩ := Sl_fm sc; have l5 : Below w.heap.size w w5 := (L1.out).trans (bc.mono (L1.out).size); obtain ⟨v',w7,hap,co,b7⟩ := CO_cons 26 l5.size (Ty_mono (nw_ty sc nc) (fun k hk _ => Nat.le_trans (L1.out).size hk)) (CO_nil w.heap.size (fun _ => True) _) (Nat.zero_le _)
 obtain ⟨va,vc,rfl,_⟩ := CO_form co; have HR : Hid _ := And.intro co (l5.trans (b7.mono l5.size)); clear sc bc nc l5 co b7 KH; generalize C.length = cl at *; go_wp2_with (at_builtin; refine wpList_apw rfl rfl rfl rfl hap ?_)
 go_ret
 exact ⟨_,rfl,HR.out⟩
theorem tc_other (a1 a2 a3 : Option Addr) (n1 c1 n2 c2 n3 c3 : Nat) (w : World) (z kk : Int) (k1 : Hid (kk ≠ 1)) (k2 : Hid (kk ≠ 2)) (k3 : Hid (kk ≠ 3)) (C : List UInt8) (KH : Hid (∀ wx : World,Sh zS (.int .i64 0,.slice none 0 0,.slice none 0 0,.slice none 0 0) wx → Calls Tryz.prog 69 #[.agg #[.int .i64 0,.slice none 0 0,.slice none 0 0,.slice none 0 0]] wx fun e w' => ∃ v,e = .returned (.tuple #[v,.int .i64 z]) ∧ Sl C v w' ∧ Below wx.heap.size wx w' ∧ Nw wx.heap.size v)) :
  Calls Tryz.prog 44 #[.agg #[.int .i64 kk,.slice a1 n1 c1,.slice a2 n2 c2,.slice a3 n3 c3]] w (TC w [C]) := by
 have l0 : Below w.heap.size w ((w.alloc (.cells #[.int .i64 kk,.slice a1 n1 c1,.slice a2 n2 c2,.slice a3 n3 c3] 25)).alloc (.cells #[.int .i64 0,.slice none 0 0,.slice none 0 0,.slice none 0 0] 63)) := ((Below.refl _ _).alloc (Nat.le_refl _) _).alloc (by simp) _; have hs1 : (w.alloc (.cells #[.int .i64 kk,.slice a1 n1 c1,.slice a2 n2 c2,.slice a3 n3 c3] 25)).heap.size = w.heap.size + 1 := by simp
 have x0 : BS (w.heap.size + 1) ((w.alloc (.cells #[.int .i64 kk,.slice a1 n1 c1,.slice a2 n2 c2,.slice a3 n3 c3] 25)).alloc (.cells #[.int .i64 0,.slice none 0 0,.slice none 0 0,.slice none 0 0] 63)) := hs1 ▸ BS_new (w.alloc (.cells #[.int .i64 kk,.slice a1 n1 c1,.slice a2 n2 c2,.slice a3 n3 c3] 25)); have hbn := heap_alloc_new (w.alloc (.cells #[.int .i64 kk,.slice a1 n1 c1,.slice a2 n2 c2,.slice a3 n3 c3] 25)) (.cells #[.int .i64 0,.slice none 0 0,.slice none 0 0,.slice none 0 0] 63); have HA := heap_alloc_new w (.cells #[.int .i64 kk,.slice a1 n1 c1,.slice a2 n2 c2,.slice a3 n3 c3] 25); have bB : Below (w.heap.size + 1) (w.alloc (.cells #[.int .i64 kk,.slice a1 n1 c1,.slice a2 n2 c2,.slice a3 n3 c3] 25)) ((w.alloc (.cells #[.int .i64 kk,.slice a1 n1 c1,.slice a2 n2 c2,.slice a3 n3 c3] 25)).alloc (.cells #[.int .i64 0,.slice none 0 0,.slice none 0 0,.slice none 0 0] 63)) := (Below.refl _ _).alloc (by omega) _; have q0 : ((w.alloc (.cells #[.int .i64 kk,.slice a1 n1 c1,.slice a2 n2 c2,.slice a3 n3 c3] 25)).alloc (.cells #[.int .i64 0,.slice none 0 0,.slice none 0 0,.slice none 0 0] 63)).cell? ⟨w.heap.size,0,none⟩ = some (.int .i64 kk) := (bB.cell (p := ⟨w.heap.size,0,none⟩) (by show w.heap.size < _; omega)).trans (by simp only [World.cell?,HA]; rfl)
 have q1 : ((w.alloc (.cells #[.int .i64 kk,.slice a1 n1 c1,.slice a2 n2 c2,.slice a3 n3 c3] 25)).alloc (.cells #[.int .i64 0,.slice none 0 0,.slice none 0 0,.slice none 0 0] 63)).cell? ⟨w.heap.size,1,none⟩ = some (.slice a1 n1 c1) := (bB.cell (p := ⟨w.heap.size,1,none⟩) (by show w.heap.size < _; omega)).trans (by simp only [World.cell?,HA]; rfl)
 have q2 : ((w.alloc (.cells #[.int .i64 kk,.slice a1 n1 c1,.slice a2 n2 c2,.slice a3 n3 c3] 25)).alloc (.cells #[.int .i64 0,.slice none 0 0,.slice none 0 0,.slice none 0 0] 63)).cell? ⟨w.heap.size,2,none⟩ = some (.slice a2 n2 c2) := (bB.cell (p := ⟨w.heap.size,2,none⟩) (by show w.heap.size < _; omega)).trans (by simp only [World.cell?,HA]; rfl)
 have q3 : ((w.alloc (.cells #[.int .i64 kk,.slice a1 n1 c1,.slice a2 n2 c2,.slice a3 n3 c3] 25)).alloc (.cells #[.int .i64 0,.slice none 0 0,.slice none 0 0,.slice none 0 0] 63)).cell? ⟨w.heap.size,3,none⟩ = some (.slice a3 n3 c3) := (bB.cell (p := ⟨w.heap.size,3,none⟩) (by show w.heap.size < _; omega)).trans (by simp only [World.cell?,HA]; rfl)
 have y0 : ((w.alloc (.cells #[.int .i64 kk,.slice a1 n1 c1,.slice a2 n2 c2,.slice a3 n3 c3] 25)).alloc (.cells #[.int .i64 0,.slice none 0 0,.slice none 0 0,.slice none 0 0] 63)).cell? ⟨w.heap.size + 1,0,none⟩ = some (.int .i64 0) := by rw [hs1] at hbn; simp only [World.cell?,hbn]; rfl
 have y1 : ((w.alloc (.cells #[.int .i64 kk,.slice a1 n1 c1,.slice a2 n2 c2,.slice a3 n3 c3] 25)).alloc (.cells #[.int .i64 0,.slice none 0 0,.slice none 0 0,.slice none 0 0] 63)).cell? ⟨w.heap.size + 1,1,none⟩ = some (.slice none 0 0) := by rw [hs1] at hbn; simp only [World.cell?,hbn]; rfl
 have y2 : ((w.alloc (.cells #[.int .i64 kk,.slice a1 n1 c1,.slice a2 n2 c2,.slice a3 n3 c3] 25)).alloc (.cells #[.int .i64 0,.slice none 0 0,.slice none 0 0,.slice none 0 0] 63)).cell? ⟨w.heap.size + 1,2,none⟩ = some (.slice none 0 0) := by rw [hs1] at hbn; simp only [World.cell?,hbn]; rfl
 have y3 : ((w.alloc (.cells #[.int .i64 kk,.slice a1 n1 c1,.slice a2 n2 c2,.slice a3 n3 c3] 25)).alloc (.cells #[.int .i64 0,.slice none 0 0,.slice none 0 0,.slice none 0 0] 63)).cell? ⟨w.heap.size + 1,3,none⟩ = some (.slice none 0 0) := by rw [hs1] at hbn; simp only [World.cell?,hbn]; rfl
 have hsz : ((w.alloc (.cells #[.int .i64 kk,.slice a1 n1 c1,.slice a2 n2 c2,.slice a3 n3 c3] 25)).alloc (.cells #[.int .i64 0,.slice none 0 0,.slice none 0 0,.slice none 0 0] 63)).heap.size = w.heap.size + 2 := by simp
 clear HA bB hs1 hbn; go_enter Tryz.func44,Tryz.ntmps44
 go_upto_region 3 with fail
 generalize ((w.alloc (.cells #[.int .i64 kk,.slice a1 n1 c1,.slice a2 n2 c2,.slice a3 n3 c3] 25)).alloc (.cells #[.int .i64 0,.slice none 0 0,.slice none 0 0,.slice none 0 0] 63)) = W0 at *; obtain ⟨h,eh⟩ : ∃ h,h = w.heap.size := ⟨_,rfl⟩; have EH : Hid (h = w.heap.size) := eh; have L0 : Hid (Below w.heap.size w W0) := l0; have X0 : Hid (BS (h + 1) W0) := eh ▸ x0; have HSZ : Hid (W0.heap.size = h + 2) := by show _ = _; rw [eh]; exact hsz
 rw [← eh] at q0 q1 q2 q3 y0 y1 y2 y3 ⊢; clear eh l0 x0 hsz; have e1 : (kk == 1) = false := beq_eq_false_iff_ne.2 k1.out; have e2 : (kk == 2) = false := beq_eq_false_iff_ne.2 k2.out; have e3 : (kk == 3) = false := beq_eq_false_iff_ne.2 k3.out; have S1 : Hid (Sh zS (.int .i64 0,.slice none 0 0,.slice none 0 0,.slice none 0 0) W0) := ⟨rfl,Sl_nil _,Sl_nil _,Ls_nil' _⟩; go_wp2_with fail
 refine (KH.out _ S1.out).mono ?_; rintro e w5 ⟨v,rfl,sc,bc,nc⟩; obtain ⟨ca,cc,rfl⟩ := Sl_fm sc; have l5 : Below w.heap.size w w5 := (L0.out).trans (bc.mono (L0.out).size); obtain ⟨v',w7,hap,co,b7⟩ := CO_cons 26 l5.size (Ty_mono (nw_ty sc nc) (fun k hk _ => Nat.le_trans (L0.out).size hk)) (CO_nil w.heap.size (fun _ => True) _) (Nat.zero_le _)
 obtain ⟨va,vc,rfl,_⟩ := CO_form co; have HR : Hid _ := And.intro co (l5.trans (b7.mono l5.size)); clear sc bc nc l5 co b7 KH; generalize C.length = cl at *; go_wp2_with (at_builtin; refine wpList_apw rfl rfl rfl rfl hap ?_)
 go_ret
 exact ⟨_,rfl,HR.out⟩
end Rt
end Go.Proofs.YtlbdaccmnpcccaaGreatDoor
namespace Go.Proofs.YtlbdaccmnpcccaaGreatDoor
namespace Rt
open Nb Sp Pk Rs Go.RowKit
structure TI (W1 : World) (G : Nat) (k : Int) (pv vv : Value) (ks : List Nd) (jk jr : Nat) (kv rv : Value) (wr : World) : Prop where
 g : G < W1.heap.size
 x : BS G wr
 c0 : wr.cell? ⟨G,0,none⟩ = some (.int .i64 k)
 c1 : wr.cell? ⟨G,1,none⟩ = some pv
 c2 : wr.cell? ⟨G,2,none⟩ = some vv
 c3 : wr.cell? ⟨G,3,none⟩ = some kv
 b : W1.grownBy wr (some G)
 K : CO W1.heap.size (fun i => rv.ownBlock ≠ some i) (sms (ks.take jk)) kv wr
 R : CO W1.heap.size (fun i => kv.ownBlock ≠ some i) (cdk (ks.take jr)) rv wr
 d : ∀ g,kv.ownBlock = some g → rv.ownBlock ≠ some g
variable {W1 : World} {G : Nat} {k : Int} {pv vv : Value} {ks : List Nd} {jk jr : Nat} {kv rv : Value} {wr w6 : World}
theorem TI_below (H : TI W1 G k pv vv ks jk jr kv rv wr) (hb : Below wr.heap.size wr w6) : TI W1 G k pv vv ks jk jr kv rv w6 :=
 ⟨H.g,BS_gb (r := none) H.x (gb_below hb) nofun,(hb.cell (p := ⟨G,0,none⟩) H.x.hi).trans H.c0,(hb.cell (p := ⟨G,1,none⟩) H.x.hi).trans H.c1,(hb.cell (p := ⟨G,2,none⟩) H.x.hi).trans H.c2,(hb.cell (p := ⟨G,3,none⟩) H.x.hi).trans H.c3,
  ⟨hb.os.trans H.b.os,hb.tape.trans H.b.tape,hb.output.trans H.b.output,Nat.le_trans H.b.size hb.size,fun j hj hne => (hb.block j (Nat.lt_of_lt_of_le hj H.b.size)).trans (H.b.block j hj hne)⟩,CO_below H.K hb,CO_below H.R hb,H.d⟩
theorem TI_K (ty : TypeId) {T : List UInt8} {y vb : Value} (H : TI W1 G k pv vv ks jk jr kv rv wr) (hv : Vl [y] vb wr) (ht : Ty (fun i => W1.heap.size ≤ i ∧ kv.ownBlock ≠ some i ∧ rv.ownBlock ≠ some i) T y wr) (hs : sms (ks.take (jk + 1)) = sms (ks.take jk) ++ [T]) (hn : ks.length ≤ 1048576) :
  ∃ a m c w7,(Builtin.append_ #[26,26] ty #[kv,vb]).run Tryz.prog wr = .ok (.slice a m c) w7 ∧ (w7.cell? ⟨G,3,none⟩ = some kv ∧ w7.frozen? ⟨G,3,none⟩ = false) ∧ TI W1 G k pv vv ks (jk + 1) jr (.slice a m c) rv (w7.setCell ⟨G,3,none⟩ (.slice a m c)) ∧ wr.grownBy w7 kv.ownBlock ∧ (∀ g,(Value.slice a m c).ownBlock = some g → kv.ownBlock = some g ∨ g = wr.heap.size) := by
 have hsz := H.b.size; have hG := H.g; have hlen : (sms (ks.take jk)).length ≤ 1048576 := by rw [sms_len,List.length_take]; omega
 obtain ⟨v',w7,hap,co,hgr,hw⟩ := CO_app (m := [T]) ty H.K hv rfl (fun j hj => by
  have : j = 0 := by simp at hj; omega
  subst this; exact ht) hsz (by simp only [List.length_singleton]; omega)
 obtain ⟨a,c,rfl,_⟩ := CO_form co; have hkl := CO_lt H.K; have hrl := CO_lt H.R; have hGk : some G ≠ kv.ownBlock := fun e => by have := (hkl G e.symm).1; omega
 have x7 := BS_gb H.x hgr hGk; have cell7 : ∀ o u,wr.cell? ⟨G,o,none⟩ = some u → w7.cell? ⟨G,o,none⟩ = some u := fun o u c => (World.cell?_of_block (a := ⟨G,o,none⟩) (hgr.block G H.x.hi hGk)).trans c
 have R7 : CO W1.heap.size (fun i => (Value.slice a (sms (ks.take jk) ++ [T]).length c).ownBlock ≠ some i) (cdk (ks.take jr)) rv w7 := by
  have r1 : CO W1.heap.size (fun i => kv.ownBlock ≠ some i ∧ (Value.slice a (sms (ks.take jk) ++ [T]).length c).ownBlock ≠ some i) (cdk (ks.take jr)) rv wr := CO_mono H.R (fun i _ h2 h3 => ⟨h3,fun e => by
   rcases hw i e with e2 | e2
   ·exact h3 e2
   ·omega⟩)
  exact CO_mono (CO_gb r1 hgr (fun i hi e => H.d i e.symm hi) (fun i _ hi e => hi.1 e.symm)) (fun i _ _ h => h.2)
 have d7 : ∀ g,(Value.slice a (sms (ks.take jk) ++ [T]).length c).ownBlock = some g → rv.ownBlock ≠ some g := fun g hg e => by
  rcases hw g hg with e2 | e2
  ·exact H.d g e2 e
  ·have := (hrl g e).2; omega
 have h7s : W1.heap.size ≤ w7.heap.size := Nat.le_trans hsz hgr.size; refine ⟨a,_,c,w7,hap,⟨cell7 3 _ H.c3,x7.f 3⟩,⟨hG,BS_set1 x7 (by decide) nofun,?_,?_,?_,?_,?_,?_,?_,d7⟩,hgr,hw⟩
 ·rw [cell_set_ne _ _ _ _ _ (by decide)]; exact cell7 0 _ H.c0
 ·rw [cell_set_ne _ _ _ _ _ (by decide)]; exact cell7 1 _ H.c1
 ·rw [cell_set_ne _ _ _ _ _ (by decide)]; exact cell7 2 _ H.c2
 ·exact World.cell?_setCell_same w7 ⟨G,3,none⟩ _ (cell7 3 _ H.c3)
 ·exact gb_trans ⟨hgr.os.trans H.b.os,hgr.tape.trans H.b.tape,hgr.output.trans H.b.output,h7s,fun j hj hne => (hgr.block j (by omega) (fun e => by have := (hkl j e.symm).1; omega)).trans (H.b.block j hj hne)⟩ (gb_set w7 G 3 _)
 ·rw [hs]; exact CO_gb co (gb_set _ _ _ _) (fun i hi e => by injection e with e; have := (CO_lt co i hi).1; omega) (fun i hi _ e => by injection e with e; omega)
 ·exact CO_gb R7 (gb_set _ _ _ _) (fun i hi e => by injection e with e; have := (hrl i hi).1; omega) (fun i hi _ e => by injection e with e; omega)
theorem TI_R (ty : TypeId) {l2 : List (List UInt8)} {B2 : Nat} {v2 : Value} (H : TI W1 G k pv vv ks jk jr kv rv wr) (h2 : CO B2 (fun i => kv.ownBlock ≠ some i ∧ rv.ownBlock ≠ some i) l2 v2 wr) (hB : W1.heap.size ≤ B2) (hs : cdk (ks.take (jr + 1)) = cdk (ks.take jr) ++ l2) (hn : (cdk (ks.take (jr + 1))).length ≤ 4194300) :
  ∃ a m c w7,(Builtin.append_ #[26,26] ty #[rv,v2]).run Tryz.prog wr = .ok (.slice a m c) w7 ∧ TI W1 G k pv vv ks jk (jr + 1) kv (.slice a m c) w7 := by
 have hsz := H.b.size; have hG := H.g; obtain ⟨hs2,hl2,hv2,ht2⟩ := CO_heads h2; rw [hs,List.length_append] at hn; obtain ⟨v',w7,hap,co,hgr,hw⟩ := CO_app (m := l2) ty H.R hv2 hl2 (fun j hj => Ty_mono (ht2 j hj) (fun i hi _ => ⟨by have := hi.1; omega,hi.2.2.2,hi.2.2.1⟩)) hsz (by omega)
 obtain ⟨a,c,rfl,_⟩ := CO_form co; have hkl := CO_lt H.K; have hrl := CO_lt H.R; have hGr : some G ≠ rv.ownBlock := fun e => by have := (hrl G e.symm).1; omega
 have cell7 : ∀ o u,wr.cell? ⟨G,o,none⟩ = some u → w7.cell? ⟨G,o,none⟩ = some u := fun o u c => (World.cell?_of_block (a := ⟨G,o,none⟩) (hgr.block G H.x.hi hGr)).trans c
 refine ⟨a,_,c,w7,hap,⟨hG,BS_gb H.x hgr hGr,cell7 0 _ H.c0,cell7 1 _ H.c1,cell7 2 _ H.c2,cell7 3 _ H.c3,⟨hgr.os.trans H.b.os,hgr.tape.trans H.b.tape,hgr.output.trans H.b.output,Nat.le_trans hsz hgr.size,fun j hj hne => (hgr.block j (by omega) (fun e => by have := (hrl j e.symm).1; omega)).trans (H.b.block j hj hne)⟩,?_,by rw [hs]; exact co,fun g hg e => ?_⟩⟩
 ·have r1 : CO W1.heap.size (fun i => rv.ownBlock ≠ some i ∧ (Value.slice a (cdk (ks.take jr) ++ l2).length c).ownBlock ≠ some i) (sms (ks.take jk)) kv wr := CO_mono H.K (fun i _ h2 h3 => ⟨h3,fun e => by
   rcases hw i e with e2 | e2
   ·exact h3 e2
   ·omega⟩)
  exact CO_mono (CO_gb r1 hgr (fun i hi e => H.d i hi e.symm) (fun i _ hi e => hi.1 e.symm)) (fun i _ _ h => h.2)
 ·rcases hw g e with e2 | e2
  ·exact H.d g hg e2
  ·have := (hkl g hg).2; omega
end Rt
end Go.Proofs.YtlbdaccmnpcccaaGreatDoor
namespace Go.Proofs.YtlbdaccmnpcccaaGreatDoor
namespace Rt
open Nb Sp Pk Rs Go.RowKit
def KD (w : World) (g off j : Nat) (t : Nd) : Prop := ∃ p1 p2 p3 p4 p5 p6 p7 p8 p9,w.cell? ⟨g,off + j * 4,none⟩ = some (.int .i64 t.kind) ∧ w.cell? ⟨g,off + j * 4 + 1,none⟩ = some (.slice p1 p2 p3) ∧ w.cell? ⟨g,off + j * 4 + 2,none⟩ = some (.slice p4 p5 p6) ∧ w.cell? ⟨g,off + j * 4 + 3,none⟩ = some (.slice p7 p8 p9) ∧
 (∀ wx,Below w.heap.size w wx → Calls Tryz.prog 44 #[.agg #[.int .i64 t.kind,.slice p1 p2 p3,.slice p4 p5 p6,.slice p7 p8 p9]] wx (TC wx (cds t))) ∧
 (∀ x y wx,Sl (cd t) (.slice x (cd t).length y) wx → Calls Tryz.prog 35 #[.slice x (cd t).length y] wx fun e w' => e = .returned (Hv (sumf (cd t))) ∧ Below wx.heap.size wx w')
def IT (W1 : World) (G : Nat) (k : Int) (pv vv : Value) (ks : List Nd) (j : Nat) (rv : Value) (wr : World) : Prop := ∃ kv,TI W1 G k pv vv ks j j kv rv wr
theorem infoHs : (Tryz.prog.info? 34).map (·.size) = some 32 := by kernel_rfl
def Z32 : Array Value := #[.int .u8 0,.int .u8 0,.int .u8 0,.int .u8 0,.int .u8 0,.int .u8 0,.int .u8 0,.int .u8 0,.int .u8 0,.int .u8 0,.int .u8 0,.int .u8 0,.int .u8 0,.int .u8 0,.int .u8 0,.int .u8 0,.int .u8 0,.int .u8 0,.int .u8 0,.int .u8 0,.int .u8 0,.int .u8 0,.int .u8 0,.int .u8 0,.int .u8 0,.int .u8 0,.int .u8 0,.int .u8 0,.int .u8 0,.int .u8 0,.int .u8 0,.int .u8 0]
theorem there_new (w : World) (T : TypeId) : (w.alloc (.cells Z32 T)).there w.heap.size 0 32 := fun j hj => by
 have hn := heap_alloc_new w (.cells Z32 T); have hc : (w.alloc (.cells Z32 T)).cell? ⟨w.heap.size,0 + j,none⟩ = Z32[j]? := by
  rw [Nat.zero_add]; simp only [World.cell?,hn]; exact if_neg (by decide)
 refine ⟨?_,by simp only [World.frozen?,hn]; simp⟩
 rw [hc]; have : j < Z32.size := hj; rw [Array.getElem?_eq_getElem this]; rfl
theorem wpList_stH {ops : Array Oper} {rest : List Oper} {op : Oper} {a : Act} {w : World} {Q : Exit → Act → World → Prop} {x y : Operand} {g : Nat} {F : Nat → Int} (hgd : op.guard = none) (ho : op.op = .store 34 x y)
  (hx : a.eval x = .pointer (some ⟨g,0,none⟩)) (hy : a.eval y = Hv F) (ht : w.there g 0 32)
  (h : ∀ w',w.grownBy w' (some g) → (∀ i,i < 32 → w'.cell? ⟨g,i,none⟩ = some (.int .u8 (F i))) → wpList Tryz.prog ops Q rest (a.put op.dst undef) w') : wpList Tryz.prog ops Q (op :: rest) a w := by
 have hl : (h32 F).toArray.size = 32 := by rw [List.size_toArray,h32_length]
 have ht' : w.there g 0 (h32 F).length := by rw [h32_length]; exact ht
 have hs := World.rangeAt_setCells_same w g 0 (h32 F) ht'; refine wpList_store_mid hgd 34 x y ho g 0 (h32 F).toArray hx hy (by rw [hl]; exact ht) (by rw [hl]; exact infoHs) (all_oneCell_toArray (fun v hv => by
  obtain ⟨i,_,rfl⟩ := List.mem_map.1 hv; rfl)) ?_
 refine h _ (Pk.gb_sets g _ 0 w) (fun i hi => ?_)
 have := hs i _ (h32_get F i hi); rw [Nat.zero_add] at this; exact this
theorem sml_bz (c : List UInt8) (j : Nat) (h : j < 32) : bz (sml c) j = sumf c j := by
 have h0 : 0 ≤ sumf c j ∧ sumf c j < 256 := by
  unfold sumf hb
  constructor
  ·exact Int.emod_nonneg _ (by decide)
  ·exact Int.emod_lt_of_pos _ (by decide)
 unfold bz sml
 rw [List.getD_eq_getElem?_getD,List.getElem?_map,List.getElem?_range h]; simp only [Option.map_some,Option.getD_some]; rw [UInt8.toNat_ofNat']; omega
theorem sml_sl {c : List UInt8} {g : Nat} {w : World} (hg : g < w.heap.size) (h : ∀ i,i < 32 → w.cell? ⟨g,i,none⟩ = some (.int .u8 (sumf c i))) : Ty (· = g) (sml c) (.slice (some ⟨g,0,none⟩) 32 32) w :=
 ⟨_,32,by rw [sml_len],by rw [sml_len]; exact Nat.le_refl _,fun _ => ⟨g,0,rfl,rfl,hg,fun j hj => by
  rw [sml_len] at hj; rw [Nat.zero_add,sml_bz c j hj]; exact h j hj⟩⟩
theorem CO_base {B B' : Nat} {X : Nat → Prop} {l : List (List UInt8)} {v : Value} {w : World} (h : CO B X l v w) (hB : B' ≤ B) : CO B' X l v w := by
 obtain ⟨hs,hl,ho,ht⟩ := h; refine ⟨hs,hl,⟨ho.1,ho.2.imp id (fun ⟨g,cap,cur,h1,h2,h3⟩ => ⟨g,cap,cur,h1,Nat.le_trans hB h2,h3⟩)⟩,fun j hj => Ty_mono (ht j hj) (fun k hk _ => ⟨Nat.le_trans hB hk.1,hk.2⟩)⟩
theorem cdk_app : ∀ a b : List Nd,cdk (a ++ b) = cdk a ++ cdk b
 | [],b => by simp [cdk]
 | t :: r,b => by rw [List.cons_append,cdk,cdk_app r b,cdk,List.append_assoc]
theorem cdk_take (ks : List Nd) (n : Nat) : (cdk (ks.take n)).length ≤ (cdk ks).length := by
 conv => rhs; rw [← List.take_append_drop n ks,cdk_app,List.length_append]
 omega
theorem cds_cons (t : Nd) : ∃ r,cds t = cd t :: r := by
 obtain ⟨k,p,v,ks⟩ := t; exact ⟨_,by rw [cds]⟩
theorem tc_fork (a1 a2 a3 : Option Addr) (n1 c1 n2 c2 n3 c3 : Nat) (w : World) (z : Int) (ks : List Nd) (hn : Hid (n3 = ks.length)) (hz : Hid (ks.length ≤ 1048576)) (hzz : Hid ((cdk ks).length ≤ 4194000)) (hk : Hid (0 < n3 → ∃ g off,a3 = some ⟨g,off,none⟩ ∧ g < w.heap.size ∧ ∀ j,j < n3 → KD w g off j (ks.getD j Tr.Nd.no))) (p u : List UInt8) (hp : Hid (Sl p (.slice a1 n1 c1) w)) (hu : Hid (Sl u (.slice a2 n2 c2) w)) (C : List UInt8) (KH : Hid (∀ (x : Value) (wx : World),Sh (3,p,u,sms ks) (.int .i64 3,.slice a1 n1 c1,.slice a2 n2 c2,x) wx → Calls Tryz.prog 69 #[.agg #[.int .i64 3,.slice a1 n1 c1,.slice a2 n2 c2,x]] wx fun e w' => ∃ v,e = .returned (.tuple #[v,.int .i64 z]) ∧ Sl C v w' ∧ Below wx.heap.size wx w' ∧ Nw wx.heap.size v)) :
  Calls Tryz.prog 44 #[.agg #[.int .i64 3,.slice a1 n1 c1,.slice a2 n2 c2,.slice a3 n3 c3]] w (TC w (C :: cdk ks)) := by
 have l0 : Below w.heap.size w ((w.alloc (.cells #[.int .i64 3,.slice a1 n1 c1,.slice a2 n2 c2,.slice a3 n3 c3] 25)).alloc (.cells #[.int .i64 0,.slice none 0 0,.slice none 0 0,.slice none 0 0] 63)) := ((Below.refl _ _).alloc (Nat.le_refl _) _).alloc (by simp) _; have hs1 : (w.alloc (.cells #[.int .i64 3,.slice a1 n1 c1,.slice a2 n2 c2,.slice a3 n3 c3] 25)).heap.size = w.heap.size + 1 := by simp
 have x0 : BS (w.heap.size + 1) ((w.alloc (.cells #[.int .i64 3,.slice a1 n1 c1,.slice a2 n2 c2,.slice a3 n3 c3] 25)).alloc (.cells #[.int .i64 0,.slice none 0 0,.slice none 0 0,.slice none 0 0] 63)) := hs1 ▸ BS_new (w.alloc (.cells #[.int .i64 3,.slice a1 n1 c1,.slice a2 n2 c2,.slice a3 n3 c3] 25)); have hbn := heap_alloc_new (w.alloc (.cells #[.int .i64 3,.slice a1 n1 c1,.slice a2 n2 c2,.slice a3 n3 c3] 25)) (.cells #[.int .i64 0,.slice none 0 0,.slice none 0 0,.slice none 0 0] 63); have HA := heap_alloc_new w (.cells #[.int .i64 3,.slice a1 n1 c1,.slice a2 n2 c2,.slice a3 n3 c3] 25); have bB : Below (w.heap.size + 1) (w.alloc (.cells #[.int .i64 3,.slice a1 n1 c1,.slice a2 n2 c2,.slice a3 n3 c3] 25)) ((w.alloc (.cells #[.int .i64 3,.slice a1 n1 c1,.slice a2 n2 c2,.slice a3 n3 c3] 25)).alloc (.cells #[.int .i64 0,.slice none 0 0,.slice none 0 0,.slice none 0 0] 63)) := (Below.refl _ _).alloc (by omega) _; have q0 : ((w.alloc (.cells #[.int .i64 3,.slice a1 n1 c1,.slice a2 n2 c2,.slice a3 n3 c3] 25)).alloc (.cells #[.int .i64 0,.slice none 0 0,.slice none 0 0,.slice none 0 0] 63)).cell? ⟨w.heap.size,0,none⟩ = some (.int .i64 3) := (bB.cell (p := ⟨w.heap.size,0,none⟩) (by show w.heap.size < _; omega)).trans (by simp only [World.cell?,HA]; rfl)
 have q1 : ((w.alloc (.cells #[.int .i64 3,.slice a1 n1 c1,.slice a2 n2 c2,.slice a3 n3 c3] 25)).alloc (.cells #[.int .i64 0,.slice none 0 0,.slice none 0 0,.slice none 0 0] 63)).cell? ⟨w.heap.size,1,none⟩ = some (.slice a1 n1 c1) := (bB.cell (p := ⟨w.heap.size,1,none⟩) (by show w.heap.size < _; omega)).trans (by simp only [World.cell?,HA]; rfl)
 have q2 : ((w.alloc (.cells #[.int .i64 3,.slice a1 n1 c1,.slice a2 n2 c2,.slice a3 n3 c3] 25)).alloc (.cells #[.int .i64 0,.slice none 0 0,.slice none 0 0,.slice none 0 0] 63)).cell? ⟨w.heap.size,2,none⟩ = some (.slice a2 n2 c2) := (bB.cell (p := ⟨w.heap.size,2,none⟩) (by show w.heap.size < _; omega)).trans (by simp only [World.cell?,HA]; rfl)
 have q3 : ((w.alloc (.cells #[.int .i64 3,.slice a1 n1 c1,.slice a2 n2 c2,.slice a3 n3 c3] 25)).alloc (.cells #[.int .i64 0,.slice none 0 0,.slice none 0 0,.slice none 0 0] 63)).cell? ⟨w.heap.size,3,none⟩ = some (.slice a3 n3 c3) := (bB.cell (p := ⟨w.heap.size,3,none⟩) (by show w.heap.size < _; omega)).trans (by simp only [World.cell?,HA]; rfl)
 have y0 : ((w.alloc (.cells #[.int .i64 3,.slice a1 n1 c1,.slice a2 n2 c2,.slice a3 n3 c3] 25)).alloc (.cells #[.int .i64 0,.slice none 0 0,.slice none 0 0,.slice none 0 0] 63)).cell? ⟨w.heap.size + 1,0,none⟩ = some (.int .i64 0) := by rw [hs1] at hbn; simp only [World.cell?,hbn]; rfl
 have y1 : ((w.alloc (.cells #[.int .i64 3,.slice a1 n1 c1,.slice a2 n2 c2,.slice a3 n3 c3] 25)).alloc (.cells #[.int .i64 0,.slice none 0 0,.slice none 0 0,.slice none 0 0] 63)).cell? ⟨w.heap.size + 1,1,none⟩ = some (.slice none 0 0) := by rw [hs1] at hbn; simp only [World.cell?,hbn]; rfl
 have y2 : ((w.alloc (.cells #[.int .i64 3,.slice a1 n1 c1,.slice a2 n2 c2,.slice a3 n3 c3] 25)).alloc (.cells #[.int .i64 0,.slice none 0 0,.slice none 0 0,.slice none 0 0] 63)).cell? ⟨w.heap.size + 1,2,none⟩ = some (.slice none 0 0) := by rw [hs1] at hbn; simp only [World.cell?,hbn]; rfl
 have y3 : ((w.alloc (.cells #[.int .i64 3,.slice a1 n1 c1,.slice a2 n2 c2,.slice a3 n3 c3] 25)).alloc (.cells #[.int .i64 0,.slice none 0 0,.slice none 0 0,.slice none 0 0] 63)).cell? ⟨w.heap.size + 1,3,none⟩ = some (.slice none 0 0) := by rw [hs1] at hbn; simp only [World.cell?,hbn]; rfl
 have hsz : ((w.alloc (.cells #[.int .i64 3,.slice a1 n1 c1,.slice a2 n2 c2,.slice a3 n3 c3] 25)).alloc (.cells #[.int .i64 0,.slice none 0 0,.slice none 0 0,.slice none 0 0] 63)).heap.size = w.heap.size + 2 := by simp
 clear HA bB hs1 hbn; go_enter Tryz.func44,Tryz.ntmps44
 go_upto_region 3 with fail
 generalize ((w.alloc (.cells #[.int .i64 3,.slice a1 n1 c1,.slice a2 n2 c2,.slice a3 n3 c3] 25)).alloc (.cells #[.int .i64 0,.slice none 0 0,.slice none 0 0,.slice none 0 0] 63)) = W0 at *; obtain ⟨h,eh⟩ : ∃ h,h = w.heap.size := ⟨_,rfl⟩; have EH : Hid (h = w.heap.size) := eh; have L0 : Hid (Below w.heap.size w W0) := l0; have X0 : Hid (BS (h + 1) W0) := eh ▸ x0; have HSZ : Hid (W0.heap.size = h + 2) := by show _ = _; rw [eh]; exact hsz
 rw [← eh] at q0 q1 q2 q3 y0 y1 y2 y3 ⊢; clear eh l0 x0 hsz; have x1 := X0.out; go_upto_region 8 with fail
 go_wp2_with (refine wpList_stB rfl rfl rfl rfl x1 ?_)
 intro w1 g1 xb z0 z1 z2 z3; have LL := L0.out; have L1 : Hid (Below w.heap.size w w1) := LL.trans ⟨g1.os,g1.tape,g1.output,g1.size,fun j hj => g1.block j (by have := LL.size; omega) (fun e => by injection e with e; have := EH.out; omega)⟩
 have q3' := (World.cell?_of_block (a := ⟨h,3,none⟩) (g1.block h (by have := HSZ.out; omega) (fun e => by injection e with e; omega))).trans q3
 have I0 : Hid (TI w1 (h + 1) 3 (.slice a1 n1 c1) (.slice a2 n2 c2) ks 0 0 (.slice none 0 0) (.slice none 0 0) w1) := ⟨xb.hi,xb,z0,z1,z2,z3,gb_refl w1 _,CO_nil _ _ _,CO_nil _ _ _,nofun⟩; clear g1 xb x1 LL y0 y1 y2 y3 q0 q1 q2 q3 z0 z1 z2 z3 X0 L0 HSZ; go_wp2_with fail
 go_loopw [4,35] (fun rv i wr => ∃ j : Nat,j ≤ n3 ∧ i = .int .i64 (j : Int) ∧ IT w1 (h + 1) 3 (.slice a1 n1 c1) (.slice a2 n2 c2) ks j rv wr) (fun _ i _ => ((n3 : Int) - intOf i).toNat)
 case atStart => exact ⟨0,Nat.zero_le _,rfl,⟨_,I0.out⟩⟩
 case round =>
  clear I0; obtain ⟨j,hj,rfl,kv,hI⟩ := hrel; have HI : Hid (TI w1 (h + 1) 3 (.slice a1 n1 c1) (.slice a2 n2 c2) ks j j kv u4 wr) := hI; obtain ⟨ra,rc,rfl,_⟩ := CO_form hI.R; obtain ⟨ka,kc,rfl,_⟩ := CO_form hI.K; clear hI; by_cases j1 : j < n3
  ·have d0 : (j : Int) < (n3 : Int) := by omega
   have d1 : (0 : Int) ≤ (j : Int) := by omega
   have hw := Nb.stp j (by have := hz.out; have := hn.out; show _ ≤ _; omega)
   have hjl : j < ks.length := by have := hn.out; omega
   obtain ⟨g,off,rfl,hg,hc⟩ := hk.out (by omega); obtain ⟨p1,p2,p3,p4,p5,p6,p7,p8,p9,k0,k1,k2,k3,kt,ksum⟩ := hc j j1; have blk : ∀ o v,w.cell? ⟨g,o,none⟩ = some v → wr.cell? ⟨g,o,none⟩ = some v := fun o v c => (World.cell?_of_block (a := ⟨g,o,none⟩) (HI.out.b.block g (Nat.lt_of_lt_of_le hg L1.out.size) (fun e => by injection e with e; have := EH.out; omega))).trans ((L1.out.cell (p := ⟨g,o,none⟩) hg).trans c)
   have r0 := blk _ _ k0; have r1 := blk _ _ k1; have r2 := blk _ _ k2; have r3 := blk _ _ k3; have KT : Hid _ := kt; have KS : Hid _ := ksum; have HJ1 : Hid (j < n3) := j1; have HS1 : Hid (sms (ks.take (j + 1)) = sms (ks.take j) ++ [if (ks.getD j Tr.Nd.no).kind = 0 then [] else sml (cd (ks.getD j Tr.Nd.no))]) := sms_snoc ks j hjl; have HC1 : Hid (cdk (ks.take (j + 1)) = cdk (ks.take j) ++ (if (ks.getD j Tr.Nd.no).kind = 0 then [] else cds (ks.getD j Tr.Nd.no))) := cdk_snoc ks j hjl; have LW : Hid (Below w.heap.size w wr) := by
    have hb := HI.out.b; have hl := L1.out; exact ⟨hb.os.trans hl.os,hb.tape.trans hl.tape,hb.output.trans hl.output,Nat.le_trans hl.size hb.size,fun i hi => (hb.block i (Nat.lt_of_lt_of_le hi hl.size) (fun e => by injection e with e; have := EH.out; omega)).trans (hl.block i hi)⟩
   clear kt ksum hc hg k0 k1 k2 k3 blk hjl j1; generalize hT : ks.getD j Tr.Nd.no = T at *; have bA : Below wr.heap.size wr (wr.alloc (.cells #[.int .i64 T.kind,.slice p1 p2 p3,.slice p4 p5 p6,.slice p7 p8 p9] 25)) := (Below.refl _ _).alloc (Nat.le_refl _) _; have HIA : Hid (TI w1 (h + 1) 3 (.slice a1 n1 c1) (.slice a2 n2 c2) ks j j (.slice ka (sms (ks.take j)).length kc) (.slice ra (cdk (ks.take j)).length rc) (wr.alloc (.cells #[.int .i64 T.kind,.slice p1 p2 p3,.slice p4 p5 p6,.slice p7 p8 p9] 25))) := TI_below HI.out bA; have c3A := HIA.out.c3; have hsA : (wr.alloc (.cells #[.int .i64 T.kind,.slice p1 p2 p3,.slice p4 p5 p6,.slice p7 p8 p9] 25)).heap.size = wr.heap.size + 1 := by simp
   have LWA : Hid (Below w.heap.size w (wr.alloc (.cells #[.int .i64 T.kind,.slice p1 p2 p3,.slice p4 p5 p6,.slice p7 p8 p9] 25))) := LW.out.trans (bA.mono LW.out.size); by_cases hk0 : T.kind = 0
   ·rw [if_pos hk0] at HS1 HC1; have bB : Below (wr.alloc (.cells #[.int .i64 T.kind,.slice p1 p2 p3,.slice p4 p5 p6,.slice p7 p8 p9] 25)).heap.size (wr.alloc (.cells #[.int .i64 T.kind,.slice p1 p2 p3,.slice p4 p5 p6,.slice p7 p8 p9] 25)) ((wr.alloc (.cells #[.int .i64 T.kind,.slice p1 p2 p3,.slice p4 p5 p6,.slice p7 p8 p9] 25)).alloc (.cells #[.slice none 0 0] 22)) := (Below.refl _ _).alloc (Nat.le_refl _) _; have HB := heap_alloc_new (wr.alloc (.cells #[.int .i64 T.kind,.slice p1 p2 p3,.slice p4 p5 p6,.slice p7 p8 p9] 25)) (.cells #[.slice none 0 0] 22); rw [hsA] at HB; have vB : Vl [.slice none 0 0] (.slice (some ⟨wr.heap.size + 1,0,none⟩) 1 1) ((wr.alloc (.cells #[.int .i64 T.kind,.slice p1 p2 p3,.slice p4 p5 p6,.slice p7 p8 p9] 25)).alloc (.cells #[.slice none 0 0] 22)) := ⟨_,1,rfl,fun _ => ⟨_,0,rfl,by simp,fun i hi => by
     have : i = 0 := by simp at hi; omega
     subst this; simp only [World.cell?,HB]; rfl⟩⟩
    obtain ⟨a7,m7,c7,w7,hap,⟨ck7,fz7⟩,hI7,_,_⟩ := TI_K 26 (TI_below HIA.out bB) vB (Ty_nil _ _) HS1.out hz.out; have HI7 : Hid (TI w1 (h + 1) 3 (.slice a1 n1 c1) (.slice a2 n2 c2) ks (j + 1) (j + 1) (.slice a7 m7 c7) (.slice ra (cdk (ks.take j)).length rc) (w7.setCell ⟨h + 1,3,none⟩ (.slice a7 m7 c7))) := ⟨hI7.g,hI7.x,hI7.c0,hI7.c1,hI7.c2,hI7.c3,hI7.b,hI7.K,by rw [HC1.out,List.append_nil]; exact hI7.R,hI7.d⟩
    clear hI7 bB HB vB HIA bA hsA LWA LW KT KS HI HS1 HC1 hT; have e0 : (T.kind == 0) = true := by rw [hk0]; rfl
    clear hk0; generalize (cdk (ks.take j)).length = rl at *; generalize (sms (ks.take j)).length = kl at *; go_wp2_with (at_builtin; refine wpList_apw rfl rfl rfl rfl hap ?_)
    have hw := hw.out; go_roundw
    case rel => exact ⟨j + 1,HJ1.out,Nb.step_v j _ hw,⟨_,HI7.out⟩⟩
    case measure => exact Nb.msr j n3 HJ1.out _ hw
   ·rw [if_neg hk0] at HS1 HC1; have e0 : (T.kind == 0) = false := beq_eq_false_iff_ne.2 hk0; have HAN := heap_alloc_new wr (.cells #[.int .i64 T.kind,.slice p1 p2 p3,.slice p4 p5 p6,.slice p7 p8 p9] 25); have HKB : Hid (∀ g,(Value.slice ka (sms (ks.take j)).length kc).ownBlock = some g → g < wr.heap.size) := fun g hg => (CO_lt HI.out.K g hg).2
    have HRB : Hid (∀ g,(Value.slice ra (cdk (ks.take j)).length rc).ownBlock = some g → g < wr.heap.size) := fun g hg => (CO_lt HI.out.R g hg).2
    clear HI LW; go_wp2_with fail
    refine Calls.mono (KT.out _ LWA.out) ?_; rintro e w3 ⟨v3,rfl,co3,b3⟩; obtain ⟨r,er⟩ := cds_cons T; have CO3 : Hid (CO (wr.alloc (.cells #[.int .i64 T.kind,.slice p1 p2 p3,.slice p4 p5 p6,.slice p7 p8 p9] 25)).heap.size (fun _ => True) (cds T) v3 w3) := co3
    obtain ⟨hs,hl,⟨ao,cap,ev,hL⟩,ht⟩ := CO_heads co3; have hlen : 0 < (cds T).length := by rw [er]; simp
    obtain ⟨g2,o2,rfl,hg2,hc2⟩ := hL (by omega); have t0 := ht 0 hlen; rw [show (cds T).getD 0 [] = cd T by rw [er]; rfl] at t0
    have s0 := Ty_sl t0; obtain ⟨x0,y0,e5⟩ := Sl_fm s0; have cell0 := hc2 0 (by omega); have e6 : hs[0]? = some (.slice x0 (cd T).length y0) := by
     rw [← e5,List.getD_eq_getElem?_getD,List.getElem?_eq_getElem (by omega)]; rfl
    rw [e6,Nat.add_zero] at cell0; rw [e5] at s0; rw [hl] at ev; subst ev; have hl0 : (0 : Int) < ((cds T).length : Int) := by omega
    have HI3 : Hid (TI w1 (h + 1) 3 (.slice a1 n1 c1) (.slice a2 n2 c2) ks j j (.slice ka (sms (ks.take j)).length kc) (.slice ra (cdk (ks.take j)).length rc) w3) := TI_below HIA.out b3; have KS2 : Hid _ := KS.out x0 y0 w3 s0; have HL3 : Hid (Below w.heap.size w w3) := LWA.out.trans (b3.mono LWA.out.size); have HW3 : Hid (wr.heap.size < (wr.alloc (.cells #[.int .i64 T.kind,.slice p1 p2 p3,.slice p4 p5 p6,.slice p7 p8 p9] 25)).heap.size ∧ (wr.alloc (.cells #[.int .i64 T.kind,.slice p1 p2 p3,.slice p4 p5 p6,.slice p7 p8 p9] 25)).heap.size ≤ w3.heap.size ∧ w1.heap.size ≤ (wr.alloc (.cells #[.int .i64 T.kind,.slice p1 p2 p3,.slice p4 p5 p6,.slice p7 p8 p9] 25)).heap.size) := ⟨by omega,b3.size,HIA.out.b.size⟩; clear co3 hL ht t0 s0 hc2 e5 e6 b3 HIA KS KT LWA c3A bA hl hg2; generalize (cdk (ks.take j)).length = rl at *; generalize (sms (ks.take j)).length = kl at *; generalize (cds T).length = dl at *; go_wp2_with fail
    refine Calls.mono KS2.out ?_; rintro e w4 ⟨rfl,b4⟩; have bZ : Below w4.heap.size w4 (w4.alloc (.cells Z32 34)) := (Below.refl _ _).alloc (Nat.le_refl _) _; have thZ := there_new w4 34; have hz4 : w4.heap.size < (w4.alloc (.cells Z32 34)).heap.size := by simp
    have B4 : Hid (Below w3.heap.size w3 w4) := b4; have BZ : Hid (Below w4.heap.size w4 (w4.alloc (.cells Z32 34)) ∧ w4.heap.size < (w4.alloc (.cells Z32 34)).heap.size) := ⟨bZ,hz4⟩; clear KS2 b4 bZ hz4; unfold Z32 at thZ BZ
    go_wp2_with (refine wpList_stH rfl rfl rfl rfl thZ ?_)
    intro w5 g5 cz; have b45 : Below w4.heap.size w4 w5 := BZ.out.1.trans ⟨g5.os,g5.tape,g5.output,g5.size,fun i hi => g5.block i (by have := BZ.out.2; omega) (fun e => by injection e with e; omega)⟩
    have hg8 : w4.heap.size < w5.heap.size := Nat.lt_of_lt_of_le BZ.out.2 g5.size; have b35 := B4.out.trans (b45.mono B4.out.size); have HI5 : Hid _ := TI_below HI3.out b35; have CO5 : Hid _ := CO_below CO3.out b35; have HL5 : Hid (Below w.heap.size w w5) := HL3.out.trans (b35.mono HL3.out.size); have TY5 : Hid (Ty (· = w4.heap.size) (sml (cd T)) (.slice (some ⟨w4.heap.size,0,none⟩) 32 32) w5) := sml_sl hg8 cz; have HSZ4 : Hid (w3.heap.size ≤ w4.heap.size) := B4.out.size; have C35 : Hid (w5.cell? ⟨h + 1,3,none⟩ = some (.slice ka kl kc) ∧ h + 1 < w5.heap.size) := ⟨HI5.out.c3,HI5.out.x.hi⟩; clear b35 b45 hg8 g5 cz BZ B4 HI3 CO3 HL3 thZ; obtain ⟨g8,hg8⟩ : ∃ g8,g8 = w4.heap.size := ⟨_,rfl⟩; rw [← hg8] at TY5 HSZ4 ⊢; clear hg8; have hL : RG.Lasts (fun wx => Below w5.heap.size w5 wx) (fun _ v wx => ∃ g6,v = .slice (some ⟨g6,0,none⟩) 1 1 ∧ g6 < wx.heap.size ∧ wx.cell? ⟨g6,0,none⟩ = some (.slice (some ⟨g8,0,none⟩) 32 32)) := ⟨fun _ _ h hb => h.trans (hb.mono h.size),fun _ _ _ _ h hb => by
     obtain ⟨g6,e1,e2,e3⟩ := h; exact ⟨g6,e1,Nat.lt_of_lt_of_le e2 hb.size,(hb.cell (p := ⟨g6,0,none⟩) e2).trans e3⟩⟩
    go_upto_region 16 with fail
    refine RG.wp_region_gen (fun wx => Below w5.heap.size w5 wx) (fun _ v wx => ∃ g6,v = .slice (some ⟨g6,0,none⟩) 1 1 ∧ g6 < wx.heap.size ∧ wx.cell? ⟨g6,0,none⟩ = some (.slice (some ⟨g8,0,none⟩) 32 32)) (fun _ _ => True) [0,0,0,1,2,2,2] (by kernel_rfl) (by kernel_rfl) ((Below.refl _ _).drew) ?_
    dsimp only [List.toList_toArray]; refine RG.go1 (v := ?_) (a' := ?_) hL (by decide) rfl ?_ ?_ ?_; rotate_left 2
    ·intro K wx hS hK; go_simp; exact hK _ (Below.refl _ _)
    ·simp only [Act.put,zA,zB,zC]; rfl
    refine RG.go1 (v := ?_) (a' := ?_) hL (by decide) rfl ?_ ?_ ?_; rotate_left 2
    ·intro K wx hS hK; have z0 := (hS.cell (p := ⟨h + 1,3,none⟩) C35.out.2).trans C35.out.1; go_simp; exact hK _ (Below.refl _ _)
    ·simp only [Act.put,zA,zB,zC]; rfl
    refine RG.go1 (v := ?_) (a' := ?_) hL (by decide) rfl ?_ ?_ ?_; rotate_left 2
    ·intro K wx hS hK; go_simp; exact hK _ (Below.refl _ _)
    ·simp only [Act.put,zA,zB,zC]; rfl
    refine RG.goN hL rfl ?_ ?_
    ·intro K wx hS hK; have hn := heap_alloc_new wx (.cells #[.slice (some ⟨g8,0,none⟩) 32 32] 22); go_simp; exact hK _ _ ((Below.refl _ _).alloc (Nat.le_refl _) _) ⟨_,rfl,by simp,by simp only [World.cell?,hn]; rfl⟩ (fun _ _ _ => ⟨trivial,trivial⟩)
    iterate 3
     refine RG.goT ?_
    refine RG.go_end ?_; intro U w9 m9 y9 x9; simp +decide (maxSteps := 1000000) only [RG.tl,RG.putN,if_true,if_false,Act.put,List.setIfInBounds_toArray,List.set_cons_succ,List.set_cons_zero,Nat.reduceAdd]
    obtain ⟨g6,e6,hg6,c6⟩ := y9 3 rfl; have TI9 := TI_below HI5.out m9; have v9 : Vl [.slice (some ⟨g8,0,none⟩) 32 32] (.slice (some ⟨g6,0,none⟩) 1 1) w9 := ⟨_,1,rfl,fun _ => ⟨g6,0,rfl,hg6,fun i hi => by
     have : i = 0 := by simp at hi; omega
     subst this; exact c6⟩⟩
    have hG := TI9.g; have t9 : Ty (fun i => w1.heap.size ≤ i ∧ (Value.slice ka kl kc).ownBlock ≠ some i ∧ (Value.slice ra rl rc).ownBlock ≠ some i) (sml (cd T)) (.slice (some ⟨g8,0,none⟩) 32 32) w9 := Ty_mono (Ty_gb (r := none) TY5.out (gb_below m9) (fun _ _ => nofun)) (fun i hi _ => by
     subst hi; have h1 := HW3.out; have h2 := HSZ4.out; exact ⟨by omega,fun e => by have := HKB.out _ e; omega,fun e => by have := HRB.out _ e; omega⟩)
    obtain ⟨a7,m7,c7,w7,hap,⟨ck7,fz7⟩,hI7,hgr7,hw7⟩ := TI_K 26 TI9 v9 t9 HS1.out hz.out; have co9 := CO_below CO5.out m9; have CO8 : Hid (CO (wr.alloc (.cells #[.int .i64 T.kind,.slice p1 p2 p3,.slice p4 p5 p6,.slice p7 p8 p9] 25)).heap.size (fun i => (Value.slice a7 m7 c7).ownBlock ≠ some i ∧ (Value.slice ra rl rc).ownBlock ≠ some i) (cds T) (.slice (some ⟨g2,o2,none⟩) dl cap) (w7.setCell ⟨h + 1,3,none⟩ (.slice a7 m7 c7))) := by
     have h1 := HW3.out; have hl3 := CO_lt co9; have k1 : CO (wr.alloc (.cells #[.int .i64 T.kind,.slice p1 p2 p3,.slice p4 p5 p6,.slice p7 p8 p9] 25)).heap.size (fun i => (Value.slice a7 m7 c7).ownBlock ≠ some i ∧ (Value.slice ra rl rc).ownBlock ≠ some i) (cds T) (.slice (some ⟨g2,o2,none⟩) dl cap) w9 := CO_mono co9 (fun i hi hi2 _ => ⟨fun e => by
      rcases hw7 i e with e2 | e2
      ·have := HKB.out _ e2; omega
      ·omega,fun e => by have := HRB.out _ e; omega⟩)
     have k2 := CO_gb k1 hgr7 (fun i hi e => by have := (hl3 i hi).1; have := HKB.out _ e.symm; omega) (fun i hi _ e => by have := HKB.out _ e.symm; omega)
     exact CO_gb k2 (gb_set _ _ _ _) (fun i hi e => by injection e with e; have := (hl3 i hi).1; omega) (fun i hi _ e => by injection e with e; omega)
    have HCL : Hid ((cdk (ks.take (j + 1))).length ≤ 4194300) := by
     have := cdk_take ks (j + 1); have := hzz.out; show _ ≤ _
     omega
    obtain ⟨a8,m8,c8,w8,hap2,hI8⟩ := TI_R 26 hI7 CO8.out HW3.out.2.2 HC1.out HCL.out; have HI8 : Hid (TI w1 (h + 1) 3 (.slice a1 n1 c1) (.slice a2 n2 c2) ks (j + 1) (j + 1) (.slice a7 m7 c7) (.slice a8 m8 c8) w8) := hI8; rw [e6]; clear hI8 hI7 CO8 co9 t9 v9 TI9 c6 hg6 e6 y9 x9 m9 hL C35 TY5 HI5 CO5 HL5 HSZ4 HW3 HKB HRB hgr7 hw7 HS1 HC1 HCL hT hG; go_upto_region 17 with (at_builtin; refine wpList_apw rfl rfl rfl rfl hap ?_)
    generalize w7.setCell ⟨h + 1,3,none⟩ (.slice a7 m7 c7) = w7' at *; clear hap ck7 fz7; go_wp2_with (at_builtin; refine wpList_apw rfl rfl rfl rfl hap2 ?_)
    have hw := hw.out; go_roundw
    case rel => exact ⟨j + 1,HJ1.out,Nb.step_v j _ hw,⟨_,HI8.out⟩⟩
    case measure => exact Nb.msr j n3 HJ1.out _ hw
  ·have hjn : j = n3 := by omega
   have e1 : ks.take j = ks := List.take_of_length_le (by have := hn.out; omega)
   have hI := HI.out; rw [e1] at hI; have hK := hI.K; have hR := hI.R; rw [e1] at hK hR; have LW : Hid (Below w.heap.size w wr) := by
    have hb := hI.b; have hl := L1.out; exact ⟨hb.os.trans hl.os,hb.tape.trans hl.tape,hb.output.trans hl.output,Nat.le_trans hl.size hb.size,fun i hi => (hb.block i (Nat.lt_of_lt_of_le hi hl.size) (fun e => by injection e with e; have := EH.out; omega)).trans (hl.block i hi)⟩
   have S1 : Hid (Sh (3,p,u,sms ks) (.int .i64 3,.slice a1 n1 c1,.slice a2 n2 c2,.slice ka (sms ks).length kc) wr) := ⟨rfl,Sl_below hp.out LW.out,Sl_below hu.out LW.out,CO_ls hK⟩; have R1 : Hid (CO w.heap.size (fun i => (Value.slice ka (sms ks).length kc).ownBlock ≠ some i) (cdk ks) (.slice ra (cdk ks).length rc) wr) := CO_base hR L1.out.size
   have c0 := hI.c0; have c1' := hI.c1; have c2' := hI.c2; have c3' := hI.c3; rw [e1]; clear hI HI hK hR e1 L1 j1 hj hk; subst hjn; go_wp2_with fail
   refine (KH.out _ _ S1.out).mono ?_; rintro e w5 ⟨v,rfl,sc,bc,nc⟩; obtain ⟨ca,cc,rfl⟩ := Sl_fm sc; have l5 : Below w.heap.size w w5 := (LW.out).trans (bc.mono (LW.out).size); obtain ⟨v',w7,hap,co,b7⟩ := CO_cons 26 l5.size (Ty_mono (nw_ty sc nc) (fun k hk _ => Nat.le_trans (LW.out).size hk)) (CO_below R1.out bc) (by have := hzz.out; omega)
   obtain ⟨va,vc,rfl,_⟩ := CO_form co; have HR : Hid _ := And.intro co (l5.trans (b7.mono l5.size)); clear sc bc nc l5 co b7 KH; generalize C.length = cl at *; go_wp2_with (at_builtin; refine wpList_apw rfl rfl rfl rfl hap ?_)
   go_ret
   exact ⟨_,rfl,HR.out⟩
theorem tc_road (a1 a2 a3 : Option Addr) (n1 c1 n2 c2 n3 c3 : Nat) (w : World) (z : Int) (ks : List Nd) (hn : Hid (n3 = ks.length)) (hz : Hid (ks.length ≤ 1048576)) (hzz : Hid ((cdk ks).length ≤ 4194000)) (hk : Hid (0 < n3 → ∃ g off,a3 = some ⟨g,off,none⟩ ∧ g < w.heap.size ∧ ∀ j,j < n3 → KD w g off j (ks.getD j Tr.Nd.no))) (p u : List UInt8) (hp : Hid (Sl p (.slice a1 n1 c1) w)) (hu : Hid (Sl u (.slice a2 n2 c2) w)) (C : List UInt8) (KH : Hid (∀ (x : Value) (wx : World),Sh (2,p,u,sms ks) (.int .i64 2,.slice a1 n1 c1,.slice a2 n2 c2,x) wx → Calls Tryz.prog 69 #[.agg #[.int .i64 2,.slice a1 n1 c1,.slice a2 n2 c2,x]] wx fun e w' => ∃ v,e = .returned (.tuple #[v,.int .i64 z]) ∧ Sl C v w' ∧ Below wx.heap.size wx w' ∧ Nw wx.heap.size v)) :
  Calls Tryz.prog 44 #[.agg #[.int .i64 2,.slice a1 n1 c1,.slice a2 n2 c2,.slice a3 n3 c3]] w (TC w (C :: cdk ks)) := by
 have l0 : Below w.heap.size w ((w.alloc (.cells #[.int .i64 2,.slice a1 n1 c1,.slice a2 n2 c2,.slice a3 n3 c3] 25)).alloc (.cells #[.int .i64 0,.slice none 0 0,.slice none 0 0,.slice none 0 0] 63)) := ((Below.refl _ _).alloc (Nat.le_refl _) _).alloc (by simp) _; have hs1 : (w.alloc (.cells #[.int .i64 2,.slice a1 n1 c1,.slice a2 n2 c2,.slice a3 n3 c3] 25)).heap.size = w.heap.size + 1 := by simp
 have x0 : BS (w.heap.size + 1) ((w.alloc (.cells #[.int .i64 2,.slice a1 n1 c1,.slice a2 n2 c2,.slice a3 n3 c3] 25)).alloc (.cells #[.int .i64 0,.slice none 0 0,.slice none 0 0,.slice none 0 0] 63)) := hs1 ▸ BS_new (w.alloc (.cells #[.int .i64 2,.slice a1 n1 c1,.slice a2 n2 c2,.slice a3 n3 c3] 25)); have hbn := heap_alloc_new (w.alloc (.cells #[.int .i64 2,.slice a1 n1 c1,.slice a2 n2 c2,.slice a3 n3 c3] 25)) (.cells #[.int .i64 0,.slice none 0 0,.slice none 0 0,.slice none 0 0] 63); have HA := heap_alloc_new w (.cells #[.int .i64 2,.slice a1 n1 c1,.slice a2 n2 c2,.slice a3 n3 c3] 25); have bB : Below (w.heap.size + 1) (w.alloc (.cells #[.int .i64 2,.slice a1 n1 c1,.slice a2 n2 c2,.slice a3 n3 c3] 25)) ((w.alloc (.cells #[.int .i64 2,.slice a1 n1 c1,.slice a2 n2 c2,.slice a3 n3 c3] 25)).alloc (.cells #[.int .i64 0,.slice none 0 0,.slice none 0 0,.slice none 0 0] 63)) := (Below.refl _ _).alloc (by omega) _; have q0 : ((w.alloc (.cells #[.int .i64 2,.slice a1 n1 c1,.slice a2 n2 c2,.slice a3 n3 c3] 25)).alloc (.cells #[.int .i64 0,.slice none 0 0,.slice none 0 0,.slice none 0 0] 63)).cell? ⟨w.heap.size,0,none⟩ = some (.int .i64 2) := (bB.cell (p := ⟨w.heap.size,0,none⟩) (by show w.heap.size < _; omega)).trans (by simp only [World.cell?,HA]; rfl)
 have q1 : ((w.alloc (.cells #[.int .i64 2,.slice a1 n1 c1,.slice a2 n2 c2,.slice a3 n3 c3] 25)).alloc (.cells #[.int .i64 0,.slice none 0 0,.slice none 0 0,.slice none 0 0] 63)).cell? ⟨w.heap.size,1,none⟩ = some (.slice a1 n1 c1) := (bB.cell (p := ⟨w.heap.size,1,none⟩) (by show w.heap.size < _; omega)).trans (by simp only [World.cell?,HA]; rfl)
 have q2 : ((w.alloc (.cells #[.int .i64 2,.slice a1 n1 c1,.slice a2 n2 c2,.slice a3 n3 c3] 25)).alloc (.cells #[.int .i64 0,.slice none 0 0,.slice none 0 0,.slice none 0 0] 63)).cell? ⟨w.heap.size,2,none⟩ = some (.slice a2 n2 c2) := (bB.cell (p := ⟨w.heap.size,2,none⟩) (by show w.heap.size < _; omega)).trans (by simp only [World.cell?,HA]; rfl)
 have q3 : ((w.alloc (.cells #[.int .i64 2,.slice a1 n1 c1,.slice a2 n2 c2,.slice a3 n3 c3] 25)).alloc (.cells #[.int .i64 0,.slice none 0 0,.slice none 0 0,.slice none 0 0] 63)).cell? ⟨w.heap.size,3,none⟩ = some (.slice a3 n3 c3) := (bB.cell (p := ⟨w.heap.size,3,none⟩) (by show w.heap.size < _; omega)).trans (by simp only [World.cell?,HA]; rfl)
 have y0 : ((w.alloc (.cells #[.int .i64 2,.slice a1 n1 c1,.slice a2 n2 c2,.slice a3 n3 c3] 25)).alloc (.cells #[.int .i64 0,.slice none 0 0,.slice none 0 0,.slice none 0 0] 63)).cell? ⟨w.heap.size + 1,0,none⟩ = some (.int .i64 0) := by rw [hs1] at hbn; simp only [World.cell?,hbn]; rfl
 have y1 : ((w.alloc (.cells #[.int .i64 2,.slice a1 n1 c1,.slice a2 n2 c2,.slice a3 n3 c3] 25)).alloc (.cells #[.int .i64 0,.slice none 0 0,.slice none 0 0,.slice none 0 0] 63)).cell? ⟨w.heap.size + 1,1,none⟩ = some (.slice none 0 0) := by rw [hs1] at hbn; simp only [World.cell?,hbn]; rfl
 have y2 : ((w.alloc (.cells #[.int .i64 2,.slice a1 n1 c1,.slice a2 n2 c2,.slice a3 n3 c3] 25)).alloc (.cells #[.int .i64 0,.slice none 0 0,.slice none 0 0,.slice none 0 0] 63)).cell? ⟨w.heap.size + 1,2,none⟩ = some (.slice none 0 0) := by rw [hs1] at hbn; simp only [World.cell?,hbn]; rfl
 have y3 : ((w.alloc (.cells #[.int .i64 2,.slice a1 n1 c1,.slice a2 n2 c2,.slice a3 n3 c3] 25)).alloc (.cells #[.int .i64 0,.slice none 0 0,.slice none 0 0,.slice none 0 0] 63)).cell? ⟨w.heap.size + 1,3,none⟩ = some (.slice none 0 0) := by rw [hs1] at hbn; simp only [World.cell?,hbn]; rfl
 have hsz : ((w.alloc (.cells #[.int .i64 2,.slice a1 n1 c1,.slice a2 n2 c2,.slice a3 n3 c3] 25)).alloc (.cells #[.int .i64 0,.slice none 0 0,.slice none 0 0,.slice none 0 0] 63)).heap.size = w.heap.size + 2 := by simp
 clear HA bB hs1 hbn; go_enter Tryz.func44,Tryz.ntmps44
 go_upto_region 3 with fail
 generalize ((w.alloc (.cells #[.int .i64 2,.slice a1 n1 c1,.slice a2 n2 c2,.slice a3 n3 c3] 25)).alloc (.cells #[.int .i64 0,.slice none 0 0,.slice none 0 0,.slice none 0 0] 63)) = W0 at *; obtain ⟨h,eh⟩ : ∃ h,h = w.heap.size := ⟨_,rfl⟩; have EH : Hid (h = w.heap.size) := eh; have L0 : Hid (Below w.heap.size w W0) := l0; have X0 : Hid (BS (h + 1) W0) := eh ▸ x0; have HSZ : Hid (W0.heap.size = h + 2) := by show _ = _; rw [eh]; exact hsz
 rw [← eh] at q0 q1 q2 q3 y0 y1 y2 y3 ⊢; clear eh l0 x0 hsz; have x1 := X0.out; go_upto_region 8 with fail
 go_wp2_with (refine wpList_stB rfl rfl rfl rfl x1 ?_)
 intro w1 g1 xb z0 z1 z2 z3; have LL := L0.out; have L1 : Hid (Below w.heap.size w w1) := LL.trans ⟨g1.os,g1.tape,g1.output,g1.size,fun j hj => g1.block j (by have := LL.size; omega) (fun e => by injection e with e; have := EH.out; omega)⟩
 have q3' := (World.cell?_of_block (a := ⟨h,3,none⟩) (g1.block h (by have := HSZ.out; omega) (fun e => by injection e with e; omega))).trans q3
 have I0 : Hid (TI w1 (h + 1) 2 (.slice a1 n1 c1) (.slice a2 n2 c2) ks 0 0 (.slice none 0 0) (.slice none 0 0) w1) := ⟨xb.hi,xb,z0,z1,z2,z3,gb_refl w1 _,CO_nil _ _ _,CO_nil _ _ _,nofun⟩; clear g1 xb x1 LL y0 y1 y2 y3 q0 q1 q2 q3 z0 z1 z2 z3 X0 L0 HSZ; go_wp2_with fail
 go_loopw [4,35] (fun rv i wr => ∃ j : Nat,j ≤ n3 ∧ i = .int .i64 (j : Int) ∧ IT w1 (h + 1) 2 (.slice a1 n1 c1) (.slice a2 n2 c2) ks j rv wr) (fun _ i _ => ((n3 : Int) - intOf i).toNat)
 case atStart => exact ⟨0,Nat.zero_le _,rfl,⟨_,I0.out⟩⟩
 case round =>
  clear I0; obtain ⟨j,hj,rfl,kv,hI⟩ := hrel; have HI : Hid (TI w1 (h + 1) 2 (.slice a1 n1 c1) (.slice a2 n2 c2) ks j j kv u4 wr) := hI; obtain ⟨ra,rc,rfl,_⟩ := CO_form hI.R; obtain ⟨ka,kc,rfl,_⟩ := CO_form hI.K; clear hI; by_cases j1 : j < n3
  ·have d0 : (j : Int) < (n3 : Int) := by omega
   have d1 : (0 : Int) ≤ (j : Int) := by omega
   have hw := Nb.stp j (by have := hz.out; have := hn.out; show _ ≤ _; omega)
   have hjl : j < ks.length := by have := hn.out; omega
   obtain ⟨g,off,rfl,hg,hc⟩ := hk.out (by omega); obtain ⟨p1,p2,p3,p4,p5,p6,p7,p8,p9,k0,k1,k2,k3,kt,ksum⟩ := hc j j1; have blk : ∀ o v,w.cell? ⟨g,o,none⟩ = some v → wr.cell? ⟨g,o,none⟩ = some v := fun o v c => (World.cell?_of_block (a := ⟨g,o,none⟩) (HI.out.b.block g (Nat.lt_of_lt_of_le hg L1.out.size) (fun e => by injection e with e; have := EH.out; omega))).trans ((L1.out.cell (p := ⟨g,o,none⟩) hg).trans c)
   have r0 := blk _ _ k0; have r1 := blk _ _ k1; have r2 := blk _ _ k2; have r3 := blk _ _ k3; have KT : Hid _ := kt; have KS : Hid _ := ksum; have HJ1 : Hid (j < n3) := j1; have HS1 : Hid (sms (ks.take (j + 1)) = sms (ks.take j) ++ [if (ks.getD j Tr.Nd.no).kind = 0 then [] else sml (cd (ks.getD j Tr.Nd.no))]) := sms_snoc ks j hjl; have HC1 : Hid (cdk (ks.take (j + 1)) = cdk (ks.take j) ++ (if (ks.getD j Tr.Nd.no).kind = 0 then [] else cds (ks.getD j Tr.Nd.no))) := cdk_snoc ks j hjl; have LW : Hid (Below w.heap.size w wr) := by
    have hb := HI.out.b; have hl := L1.out; exact ⟨hb.os.trans hl.os,hb.tape.trans hl.tape,hb.output.trans hl.output,Nat.le_trans hl.size hb.size,fun i hi => (hb.block i (Nat.lt_of_lt_of_le hi hl.size) (fun e => by injection e with e; have := EH.out; omega)).trans (hl.block i hi)⟩
   clear kt ksum hc hg k0 k1 k2 k3 blk hjl j1; generalize hT : ks.getD j Tr.Nd.no = T at *; have bA : Below wr.heap.size wr (wr.alloc (.cells #[.int .i64 T.kind,.slice p1 p2 p3,.slice p4 p5 p6,.slice p7 p8 p9] 25)) := (Below.refl _ _).alloc (Nat.le_refl _) _; have HIA : Hid (TI w1 (h + 1) 2 (.slice a1 n1 c1) (.slice a2 n2 c2) ks j j (.slice ka (sms (ks.take j)).length kc) (.slice ra (cdk (ks.take j)).length rc) (wr.alloc (.cells #[.int .i64 T.kind,.slice p1 p2 p3,.slice p4 p5 p6,.slice p7 p8 p9] 25))) := TI_below HI.out bA; have c3A := HIA.out.c3; have hsA : (wr.alloc (.cells #[.int .i64 T.kind,.slice p1 p2 p3,.slice p4 p5 p6,.slice p7 p8 p9] 25)).heap.size = wr.heap.size + 1 := by simp
   have LWA : Hid (Below w.heap.size w (wr.alloc (.cells #[.int .i64 T.kind,.slice p1 p2 p3,.slice p4 p5 p6,.slice p7 p8 p9] 25))) := LW.out.trans (bA.mono LW.out.size); by_cases hk0 : T.kind = 0
   ·rw [if_pos hk0] at HS1 HC1; have bB : Below (wr.alloc (.cells #[.int .i64 T.kind,.slice p1 p2 p3,.slice p4 p5 p6,.slice p7 p8 p9] 25)).heap.size (wr.alloc (.cells #[.int .i64 T.kind,.slice p1 p2 p3,.slice p4 p5 p6,.slice p7 p8 p9] 25)) ((wr.alloc (.cells #[.int .i64 T.kind,.slice p1 p2 p3,.slice p4 p5 p6,.slice p7 p8 p9] 25)).alloc (.cells #[.slice none 0 0] 22)) := (Below.refl _ _).alloc (Nat.le_refl _) _; have HB := heap_alloc_new (wr.alloc (.cells #[.int .i64 T.kind,.slice p1 p2 p3,.slice p4 p5 p6,.slice p7 p8 p9] 25)) (.cells #[.slice none 0 0] 22); rw [hsA] at HB; have vB : Vl [.slice none 0 0] (.slice (some ⟨wr.heap.size + 1,0,none⟩) 1 1) ((wr.alloc (.cells #[.int .i64 T.kind,.slice p1 p2 p3,.slice p4 p5 p6,.slice p7 p8 p9] 25)).alloc (.cells #[.slice none 0 0] 22)) := ⟨_,1,rfl,fun _ => ⟨_,0,rfl,by simp,fun i hi => by
     have : i = 0 := by simp at hi; omega
     subst this; simp only [World.cell?,HB]; rfl⟩⟩
    obtain ⟨a7,m7,c7,w7,hap,⟨ck7,fz7⟩,hI7,_,_⟩ := TI_K 26 (TI_below HIA.out bB) vB (Ty_nil _ _) HS1.out hz.out; have HI7 : Hid (TI w1 (h + 1) 2 (.slice a1 n1 c1) (.slice a2 n2 c2) ks (j + 1) (j + 1) (.slice a7 m7 c7) (.slice ra (cdk (ks.take j)).length rc) (w7.setCell ⟨h + 1,3,none⟩ (.slice a7 m7 c7))) := ⟨hI7.g,hI7.x,hI7.c0,hI7.c1,hI7.c2,hI7.c3,hI7.b,hI7.K,by rw [HC1.out,List.append_nil]; exact hI7.R,hI7.d⟩
    clear hI7 bB HB vB HIA bA hsA LWA LW KT KS HI HS1 HC1 hT; have e0 : (T.kind == 0) = true := by rw [hk0]; rfl
    clear hk0; generalize (cdk (ks.take j)).length = rl at *; generalize (sms (ks.take j)).length = kl at *; go_wp2_with (at_builtin; refine wpList_apw rfl rfl rfl rfl hap ?_)
    have hw := hw.out; go_roundw
    case rel => exact ⟨j + 1,HJ1.out,Nb.step_v j _ hw,⟨_,HI7.out⟩⟩
    case measure => exact Nb.msr j n3 HJ1.out _ hw
   ·rw [if_neg hk0] at HS1 HC1; have e0 : (T.kind == 0) = false := beq_eq_false_iff_ne.2 hk0; have HAN := heap_alloc_new wr (.cells #[.int .i64 T.kind,.slice p1 p2 p3,.slice p4 p5 p6,.slice p7 p8 p9] 25); have HKB : Hid (∀ g,(Value.slice ka (sms (ks.take j)).length kc).ownBlock = some g → g < wr.heap.size) := fun g hg => (CO_lt HI.out.K g hg).2
    have HRB : Hid (∀ g,(Value.slice ra (cdk (ks.take j)).length rc).ownBlock = some g → g < wr.heap.size) := fun g hg => (CO_lt HI.out.R g hg).2
    clear HI LW; go_wp2_with fail
    refine Calls.mono (KT.out _ LWA.out) ?_; rintro e w3 ⟨v3,rfl,co3,b3⟩; obtain ⟨r,er⟩ := cds_cons T; have CO3 : Hid (CO (wr.alloc (.cells #[.int .i64 T.kind,.slice p1 p2 p3,.slice p4 p5 p6,.slice p7 p8 p9] 25)).heap.size (fun _ => True) (cds T) v3 w3) := co3
    obtain ⟨hs,hl,⟨ao,cap,ev,hL⟩,ht⟩ := CO_heads co3; have hlen : 0 < (cds T).length := by rw [er]; simp
    obtain ⟨g2,o2,rfl,hg2,hc2⟩ := hL (by omega); have t0 := ht 0 hlen; rw [show (cds T).getD 0 [] = cd T by rw [er]; rfl] at t0
    have s0 := Ty_sl t0; obtain ⟨x0,y0,e5⟩ := Sl_fm s0; have cell0 := hc2 0 (by omega); have e6 : hs[0]? = some (.slice x0 (cd T).length y0) := by
     rw [← e5,List.getD_eq_getElem?_getD,List.getElem?_eq_getElem (by omega)]; rfl
    rw [e6,Nat.add_zero] at cell0; rw [e5] at s0; rw [hl] at ev; subst ev; have hl0 : (0 : Int) < ((cds T).length : Int) := by omega
    have HI3 : Hid (TI w1 (h + 1) 2 (.slice a1 n1 c1) (.slice a2 n2 c2) ks j j (.slice ka (sms (ks.take j)).length kc) (.slice ra (cdk (ks.take j)).length rc) w3) := TI_below HIA.out b3; have KS2 : Hid _ := KS.out x0 y0 w3 s0; have HL3 : Hid (Below w.heap.size w w3) := LWA.out.trans (b3.mono LWA.out.size); have HW3 : Hid (wr.heap.size < (wr.alloc (.cells #[.int .i64 T.kind,.slice p1 p2 p3,.slice p4 p5 p6,.slice p7 p8 p9] 25)).heap.size ∧ (wr.alloc (.cells #[.int .i64 T.kind,.slice p1 p2 p3,.slice p4 p5 p6,.slice p7 p8 p9] 25)).heap.size ≤ w3.heap.size ∧ w1.heap.size ≤ (wr.alloc (.cells #[.int .i64 T.kind,.slice p1 p2 p3,.slice p4 p5 p6,.slice p7 p8 p9] 25)).heap.size) := ⟨by omega,b3.size,HIA.out.b.size⟩; clear co3 hL ht t0 s0 hc2 e5 e6 b3 HIA KS KT LWA c3A bA hl hg2; generalize (cdk (ks.take j)).length = rl at *; generalize (sms (ks.take j)).length = kl at *; generalize (cds T).length = dl at *; go_wp2_with fail
    refine Calls.mono KS2.out ?_; rintro e w4 ⟨rfl,b4⟩; have bZ : Below w4.heap.size w4 (w4.alloc (.cells Z32 34)) := (Below.refl _ _).alloc (Nat.le_refl _) _; have thZ := there_new w4 34; have hz4 : w4.heap.size < (w4.alloc (.cells Z32 34)).heap.size := by simp
    have B4 : Hid (Below w3.heap.size w3 w4) := b4; have BZ : Hid (Below w4.heap.size w4 (w4.alloc (.cells Z32 34)) ∧ w4.heap.size < (w4.alloc (.cells Z32 34)).heap.size) := ⟨bZ,hz4⟩; clear KS2 b4 bZ hz4; unfold Z32 at thZ BZ
    go_wp2_with (refine wpList_stH rfl rfl rfl rfl thZ ?_)
    intro w5 g5 cz; have b45 : Below w4.heap.size w4 w5 := BZ.out.1.trans ⟨g5.os,g5.tape,g5.output,g5.size,fun i hi => g5.block i (by have := BZ.out.2; omega) (fun e => by injection e with e; omega)⟩
    have hg8 : w4.heap.size < w5.heap.size := Nat.lt_of_lt_of_le BZ.out.2 g5.size; have b35 := B4.out.trans (b45.mono B4.out.size); have HI5 : Hid _ := TI_below HI3.out b35; have CO5 : Hid _ := CO_below CO3.out b35; have HL5 : Hid (Below w.heap.size w w5) := HL3.out.trans (b35.mono HL3.out.size); have TY5 : Hid (Ty (· = w4.heap.size) (sml (cd T)) (.slice (some ⟨w4.heap.size,0,none⟩) 32 32) w5) := sml_sl hg8 cz; have HSZ4 : Hid (w3.heap.size ≤ w4.heap.size) := B4.out.size; have C35 : Hid (w5.cell? ⟨h + 1,3,none⟩ = some (.slice ka kl kc) ∧ h + 1 < w5.heap.size) := ⟨HI5.out.c3,HI5.out.x.hi⟩; clear b35 b45 hg8 g5 cz BZ B4 HI3 CO3 HL3 thZ; obtain ⟨g8,hg8⟩ : ∃ g8,g8 = w4.heap.size := ⟨_,rfl⟩; rw [← hg8] at TY5 HSZ4 ⊢; clear hg8; have hL : RG.Lasts (fun wx => Below w5.heap.size w5 wx) (fun _ v wx => ∃ g6,v = .slice (some ⟨g6,0,none⟩) 1 1 ∧ g6 < wx.heap.size ∧ wx.cell? ⟨g6,0,none⟩ = some (.slice (some ⟨g8,0,none⟩) 32 32)) := ⟨fun _ _ h hb => h.trans (hb.mono h.size),fun _ _ _ _ h hb => by
     obtain ⟨g6,e1,e2,e3⟩ := h; exact ⟨g6,e1,Nat.lt_of_lt_of_le e2 hb.size,(hb.cell (p := ⟨g6,0,none⟩) e2).trans e3⟩⟩
    go_upto_region 16 with fail
    refine RG.wp_region_gen (fun wx => Below w5.heap.size w5 wx) (fun _ v wx => ∃ g6,v = .slice (some ⟨g6,0,none⟩) 1 1 ∧ g6 < wx.heap.size ∧ wx.cell? ⟨g6,0,none⟩ = some (.slice (some ⟨g8,0,none⟩) 32 32)) (fun _ _ => True) [0,0,0,1,2,2,2] (by kernel_rfl) (by kernel_rfl) ((Below.refl _ _).drew) ?_
    dsimp only [List.toList_toArray]; refine RG.go1 (v := ?_) (a' := ?_) hL (by decide) rfl ?_ ?_ ?_; rotate_left 2
    ·intro K wx hS hK; go_simp; exact hK _ (Below.refl _ _)
    ·simp only [Act.put,zA,zB,zC]; rfl
    refine RG.go1 (v := ?_) (a' := ?_) hL (by decide) rfl ?_ ?_ ?_; rotate_left 2
    ·intro K wx hS hK; have z0 := (hS.cell (p := ⟨h + 1,3,none⟩) C35.out.2).trans C35.out.1; go_simp; exact hK _ (Below.refl _ _)
    ·simp only [Act.put,zA,zB,zC]; rfl
    refine RG.go1 (v := ?_) (a' := ?_) hL (by decide) rfl ?_ ?_ ?_; rotate_left 2
    ·intro K wx hS hK; go_simp; exact hK _ (Below.refl _ _)
    ·simp only [Act.put,zA,zB,zC]; rfl
    refine RG.goN hL rfl ?_ ?_
    ·intro K wx hS hK; have hn := heap_alloc_new wx (.cells #[.slice (some ⟨g8,0,none⟩) 32 32] 22); go_simp; exact hK _ _ ((Below.refl _ _).alloc (Nat.le_refl _) _) ⟨_,rfl,by simp,by simp only [World.cell?,hn]; rfl⟩ (fun _ _ _ => ⟨trivial,trivial⟩)
    iterate 3
     refine RG.goT ?_
    refine RG.go_end ?_; intro U w9 m9 y9 x9; simp +decide (maxSteps := 1000000) only [RG.tl,RG.putN,if_true,if_false,Act.put,List.setIfInBounds_toArray,List.set_cons_succ,List.set_cons_zero,Nat.reduceAdd]
    obtain ⟨g6,e6,hg6,c6⟩ := y9 3 rfl; have TI9 := TI_below HI5.out m9; have v9 : Vl [.slice (some ⟨g8,0,none⟩) 32 32] (.slice (some ⟨g6,0,none⟩) 1 1) w9 := ⟨_,1,rfl,fun _ => ⟨g6,0,rfl,hg6,fun i hi => by
     have : i = 0 := by simp at hi; omega
     subst this; exact c6⟩⟩
    have hG := TI9.g; have t9 : Ty (fun i => w1.heap.size ≤ i ∧ (Value.slice ka kl kc).ownBlock ≠ some i ∧ (Value.slice ra rl rc).ownBlock ≠ some i) (sml (cd T)) (.slice (some ⟨g8,0,none⟩) 32 32) w9 := Ty_mono (Ty_gb (r := none) TY5.out (gb_below m9) (fun _ _ => nofun)) (fun i hi _ => by
     subst hi; have h1 := HW3.out; have h2 := HSZ4.out; exact ⟨by omega,fun e => by have := HKB.out _ e; omega,fun e => by have := HRB.out _ e; omega⟩)
    obtain ⟨a7,m7,c7,w7,hap,⟨ck7,fz7⟩,hI7,hgr7,hw7⟩ := TI_K 26 TI9 v9 t9 HS1.out hz.out; have co9 := CO_below CO5.out m9; have CO8 : Hid (CO (wr.alloc (.cells #[.int .i64 T.kind,.slice p1 p2 p3,.slice p4 p5 p6,.slice p7 p8 p9] 25)).heap.size (fun i => (Value.slice a7 m7 c7).ownBlock ≠ some i ∧ (Value.slice ra rl rc).ownBlock ≠ some i) (cds T) (.slice (some ⟨g2,o2,none⟩) dl cap) (w7.setCell ⟨h + 1,3,none⟩ (.slice a7 m7 c7))) := by
     have h1 := HW3.out; have hl3 := CO_lt co9; have k1 : CO (wr.alloc (.cells #[.int .i64 T.kind,.slice p1 p2 p3,.slice p4 p5 p6,.slice p7 p8 p9] 25)).heap.size (fun i => (Value.slice a7 m7 c7).ownBlock ≠ some i ∧ (Value.slice ra rl rc).ownBlock ≠ some i) (cds T) (.slice (some ⟨g2,o2,none⟩) dl cap) w9 := CO_mono co9 (fun i hi hi2 _ => ⟨fun e => by
      rcases hw7 i e with e2 | e2
      ·have := HKB.out _ e2; omega
      ·omega,fun e => by have := HRB.out _ e; omega⟩)
     have k2 := CO_gb k1 hgr7 (fun i hi e => by have := (hl3 i hi).1; have := HKB.out _ e.symm; omega) (fun i hi _ e => by have := HKB.out _ e.symm; omega)
     exact CO_gb k2 (gb_set _ _ _ _) (fun i hi e => by injection e with e; have := (hl3 i hi).1; omega) (fun i hi _ e => by injection e with e; omega)
    have HCL : Hid ((cdk (ks.take (j + 1))).length ≤ 4194300) := by
     have := cdk_take ks (j + 1); have := hzz.out; show _ ≤ _
     omega
    obtain ⟨a8,m8,c8,w8,hap2,hI8⟩ := TI_R 26 hI7 CO8.out HW3.out.2.2 HC1.out HCL.out; have HI8 : Hid (TI w1 (h + 1) 2 (.slice a1 n1 c1) (.slice a2 n2 c2) ks (j + 1) (j + 1) (.slice a7 m7 c7) (.slice a8 m8 c8) w8) := hI8; rw [e6]; clear hI8 hI7 CO8 co9 t9 v9 TI9 c6 hg6 e6 y9 x9 m9 hL C35 TY5 HI5 CO5 HL5 HSZ4 HW3 HKB HRB hgr7 hw7 HS1 HC1 HCL hT hG; go_upto_region 17 with (at_builtin; refine wpList_apw rfl rfl rfl rfl hap ?_)
    generalize w7.setCell ⟨h + 1,3,none⟩ (.slice a7 m7 c7) = w7' at *; clear hap ck7 fz7; go_wp2_with (at_builtin; refine wpList_apw rfl rfl rfl rfl hap2 ?_)
    have hw := hw.out; go_roundw
    case rel => exact ⟨j + 1,HJ1.out,Nb.step_v j _ hw,⟨_,HI8.out⟩⟩
    case measure => exact Nb.msr j n3 HJ1.out _ hw
  ·have hjn : j = n3 := by omega
   have e1 : ks.take j = ks := List.take_of_length_le (by have := hn.out; omega)
   have hI := HI.out; rw [e1] at hI; have hK := hI.K; have hR := hI.R; rw [e1] at hK hR; have LW : Hid (Below w.heap.size w wr) := by
    have hb := hI.b; have hl := L1.out; exact ⟨hb.os.trans hl.os,hb.tape.trans hl.tape,hb.output.trans hl.output,Nat.le_trans hl.size hb.size,fun i hi => (hb.block i (Nat.lt_of_lt_of_le hi hl.size) (fun e => by injection e with e; have := EH.out; omega)).trans (hl.block i hi)⟩
   have S1 : Hid (Sh (2,p,u,sms ks) (.int .i64 2,.slice a1 n1 c1,.slice a2 n2 c2,.slice ka (sms ks).length kc) wr) := ⟨rfl,Sl_below hp.out LW.out,Sl_below hu.out LW.out,CO_ls hK⟩; have R1 : Hid (CO w.heap.size (fun i => (Value.slice ka (sms ks).length kc).ownBlock ≠ some i) (cdk ks) (.slice ra (cdk ks).length rc) wr) := CO_base hR L1.out.size
   have c0 := hI.c0; have c1' := hI.c1; have c2' := hI.c2; have c3' := hI.c3; rw [e1]; clear hI HI hK hR e1 L1 j1 hj hk; subst hjn; go_wp2_with fail
   refine (KH.out _ _ S1.out).mono ?_; rintro e w5 ⟨v,rfl,sc,bc,nc⟩; obtain ⟨ca,cc,rfl⟩ := Sl_fm sc; have l5 : Below w.heap.size w w5 := (LW.out).trans (bc.mono (LW.out).size); obtain ⟨v',w7,hap,co,b7⟩ := CO_cons 26 l5.size (Ty_mono (nw_ty sc nc) (fun k hk _ => Nat.le_trans (LW.out).size hk)) (CO_below R1.out bc) (by have := hzz.out; omega)
   obtain ⟨va,vc,rfl,_⟩ := CO_form co; have HR : Hid _ := And.intro co (l5.trans (b7.mono l5.size)); clear sc bc nc l5 co b7 KH; generalize C.length = cl at *; go_wp2_with (at_builtin; refine wpList_apw rfl rfl rfl rfl hap ?_)
   go_ret
   exact ⟨_,rfl,HR.out⟩
end Rt
end Go.Proofs.YtlbdaccmnpcccaaGreatDoor
namespace Go.Proofs.YtlbdaccmnpcccaaGreatDoor
namespace Rt
open Nb Sp Pk Rs Go.RowKit
theorem hc_len (s : Shp) (hp : s.2.1.length ≤ 1048576) : (hc s).length ≤ 1048576 := by
 unfold hc
 split
 ·rename_i h; exact encS_len s h hp
 ·simp
theorem shN_path (t : Nd) (h : Tr.wn t ≤ 1048576) : (shN t).2.1.length ≤ 1048576 := by
 obtain ⟨k,p,v,ks⟩ := t; unfold Tr.wn at h
 rw [shN]; split
 ·show p.length ≤ _; omega
 ·split
  ·show p.length ≤ _; omega
  ·simp
mutual
theorem cds_wn : ∀ t : Nd,(cds t).length ≤ Tr.wn t
 | .mk k p v ks => by
  have := cdk_wn ks; rw [cds,List.length_cons]; unfold Tr.wn
  split
  ·omega
  ·simp only [List.length_nil]; omega
theorem cdk_wn : ∀ ks : List Nd,(cdk ks).length ≤ Tr.wnk ks
 | [] => by simp [cdk]
 | t :: r => by
  have h1 := cds_wn t; have h2 := cdk_wn r; rw [cdk,List.length_append]; unfold Tr.wnk
  split
  ·simp only [List.length_nil]; omega
  ·omega
end
theorem wnk_many' : ∀ ks : List Nd,ks.length ≤ Tr.wnk ks
 | [] => Nat.zero_le _
 | .mk k p v js :: r => by
  have := wnk_many' r; unfold Tr.wnk Tr.wn
  rw [List.length_cons]; omega
theorem treecodes_any {t : Nd} (hw : Tr.Wf t) : Tr.wn t ≤ 1048576 → ∀ (S : Nat → Prop) (x : Tr.V4) (w : World),Tr.Nv S w t x → Calls Tryz.prog 44 #[Tr.v4 x] w (TC w (cds t)) := by
 induction hw with
 | mk k p v ks hks ih =>
  intro hz S x w hx; have hpp := shN_path (.mk k p v ks) hz; have KH : ∀ (y : V4) (wx : World),Sh (shN (.mk k p v ks)) y wx → Calls Tryz.prog 69 #[Rs.v4 y] wx fun e w' => ∃ q,e = .returned (.tuple #[q,.int .i64 (he (shN (.mk k p v ks)))]) ∧ Sl (cd (.mk k p v ks)) q w' ∧ Below wx.heap.size wx w' ∧ Nw wx.heap.size q := fun y wx hy => by
   rw [cd_eq]; exact hcode2_any _ y wx hy (by omega) (fun hs => encS_len _ hs hpp)
  have hzk := hz; unfold Tr.wn at hzk
  cases hx with
  | mk _ _ _ _ pv vv kv vs hp hv hl hk hi =>
   obtain ⟨a1,c1,rfl,_⟩ := id hp; obtain ⟨a2,c2,rfl,_⟩ := id hv; obtain ⟨a3,c3,rfl,_,hq⟩ := id hk; by_cases k1 : k = 1
   ·subst k1; have e : cds (.mk 1 p v ks) = [cd (.mk 1 p v ks)] := by rw [cds,if_neg (by decide)]
    rw [e]; have es : shN (.mk 1 p v ks) = (1,p,v,[]) := by rw [shN,if_pos rfl]
    rw [es] at KH; exact tc_leaf a1 a2 a3 _ c1 _ c2 _ c3 w _ p v (Tr.Bs_sl hp) (Tr.Bs_sl hv) _ (fun wx hs => KH (.int .i64 1,.slice a1 p.length c1,.slice a2 v.length c2,.slice none 0 0) wx hs)
   have hkid : ∀ j,j < ks.length → Tr.wn (ks.getD j Tr.Nd.no) ≤ 1048576 := fun j hj => by have := Tr.wnk_one ks j hj; omega
   have hkd : 0 < vs.length → ∃ g off,a3 = some ⟨g,off,none⟩ ∧ g < w.heap.size ∧ ∀ j,j < vs.length → KD w g off j (ks.getD j Tr.Nd.no) := fun h0 => by
    obtain ⟨g,off,e,_,hg,hc⟩ := hq h0; refine ⟨g,off,e,hg,fun j hj => ?_⟩
    obtain ⟨r0,r1,r2,r3⟩ := hc j hj; have hjk : j < ks.length := by omega
    have nv := hi j hjk; have hpj := shN_path (ks.getD j Tr.Nd.no) (hkid j hjk); obtain ⟨kk,b1,m1,d1,b2,m2,d2,b3,m3,d3,ev⟩ := Tr.Nv_form nv; have ek : kk = (ks.getD j Tr.Nd.no).kind := by
     rw [ev] at nv; cases hT : ks.getD j Tr.Nd.no with
     | mk kT pT vT ksT =>
      rw [hT] at nv; cases nv
      rfl
    rw [ev] at r0 r1 r2 r3; rw [Nat.mul_comm 4 j] at r0 r1 r2 r3; refine ⟨b1,m1,d1,b2,m2,d2,b3,m3,d3,by rw [← ek]; exact r0,r1,r2,r3,fun wx hb => ?_,fun y z wx hs => ?_⟩
    ·have nv2 := Tr.Nv_below nv hb; have := ih j hjk (hkid j hjk) S _ wx nv2; rw [ev,ek] at this; exact this
    ·obtain ⟨ao,cap,e1,_,hvv⟩ := hs; injection e1 with e2 _ _
     refine ssum_any _ y z wx ?_ (by rw [e2]; exact hvv)
     have := hc_len _ hpj; rw [← cd_eq] at this; omega
   have hcl : (cdk ks).length ≤ 4194000 := by have := cdk_wn ks; omega
   have hkl : ks.length ≤ 1048576 := by have := wnk_many' ks; omega
   by_cases k2 : k = 2
   ·subst k2; have e : cds (.mk 2 p v ks) = cd (.mk 2 p v ks) :: cdk ks := by rw [cds,if_pos (.inl rfl)]
    rw [e]; have es : shN (.mk 2 p v ks) = (2,p,v,sms ks) := by rw [shN,if_neg (by decide),if_pos (.inl rfl)]
    rw [es] at KH; exact tc_road a1 a2 a3 _ c1 _ c2 _ c3 w _ ks hl hkl hcl hkd p v (Tr.Bs_sl hp) (Tr.Bs_sl hv) _ (fun y wx hs => KH (.int .i64 2,.slice a1 p.length c1,.slice a2 v.length c2,y) wx hs)
   by_cases k3 : k = 3
   ·subst k3; have e : cds (.mk 3 p v ks) = cd (.mk 3 p v ks) :: cdk ks := by rw [cds,if_pos (.inr rfl)]
    rw [e]; have es : shN (.mk 3 p v ks) = (3,p,v,sms ks) := by rw [shN,if_neg (by decide),if_pos (.inr rfl)]
    rw [es] at KH; exact tc_fork a1 a2 a3 _ c1 _ c2 _ c3 w _ ks hl hkl hcl hkd p v (Tr.Bs_sl hp) (Tr.Bs_sl hv) _ (fun y wx hs => KH (.int .i64 3,.slice a1 p.length c1,.slice a2 v.length c2,y) wx hs)
   ·have e : cds (.mk k p v ks) = [cd (.mk k p v ks)] := by rw [cds,if_neg (fun h => h.elim k2 k3)]
    rw [e]; have es : shN (.mk k p v ks) = zS := by rw [shN,if_neg k1,if_neg (fun h => h.elim k2 k3)]
    rw [es] at KH; exact tc_other a1 a2 a3 _ c1 _ c2 _ c3 w _ k k1 k2 k3 _ (fun wx hs => KH (.int .i64 0,.slice none 0 0,.slice none 0 0,.slice none 0 0) wx hs)
end Rt
end Go.Proofs.YtlbdaccmnpcccaaGreatDoor
namespace Go.Proofs.YtlbdaccmnpcccaaGreatDoor
namespace Pm
open Rt Go.RowKit
theorem stw (k n : Nat) (h : k < n) (hn : n ≤ 1048576) : Hid (wrap64 ((k : Int) + 1) = k + 1) := by
 show _ = _
 unfold wrap64; omega
theorem stv (k : Nat) (v : Int) (h : v = (k : Int) + 1) : Value.int .i64 v = .int .i64 ((k + 1 : Nat) : Int) := by rw [h]; rfl
theorem stm (k n : Nat) (h : k < n) (v : Int) (hv : v = (k : Int) + 1) : ((n : Int) - intOf (.int .i64 v)).toNat < ((n : Int) - intOf (.int .i64 (k : Int))).toNat := by
 show ((n : Int) - v).toNat < ((n : Int) - (k : Int)).toNat
 omega
def KN (w : World) (g off j : Nat) (t : Nd) : Prop := ∃ p1 p2 p3 p4 p5 p6 p7 p8 p9,w.cell? ⟨g,off + j * 4,none⟩ = some (.int .i64 t.kind) ∧ w.cell? ⟨g,off + j * 4 + 1,none⟩ = some (.slice p1 p2 p3) ∧ w.cell? ⟨g,off + j * 4 + 2,none⟩ = some (.slice p4 p5 p6) ∧ w.cell? ⟨g,off + j * 4 + 3,none⟩ = some (.slice p7 p8 p9) ∧
 (∀ wx,Below w.heap.size w wx → Calls Tryz.prog 40 #[.slice p7 p8 p9] wx fun e w' => e = .returned (.int .i64 (cnk (kids t) : Nat)) ∧ Below wx.heap.size wx w')
theorem count_walk (ks : List Nd) (n : Nat) (a : Option Addr) (c : Nat) (w : World) (hn : Hid (n = ks.length)) (hz : Hid (n ≤ 1048576 ∧ Tr.wnk ks ≤ 1048576)) (hcap : n ≤ c) (hk : Hid (0 < n → ∃ g off,a = some ⟨g,off,none⟩ ∧ g < w.heap.size ∧ ∀ j,j < n → KN w g off j (ks.getD j Tr.Nd.no))) :
  Calls Tryz.prog 40 #[.slice a n c] w fun e w' => e = .returned (.int .i64 (cnk ks : Nat)) ∧ Below w.heap.size w w' := by
 go_enter Tryz.func40,Tryz.ntmps40
 go_wp2_with fail
 go_loopw [3,8] (fun m s wr => ∃ (i : Nat),i ≤ n ∧ s = .int .i64 (i : Int) ∧ m = .int .i64 ((cnk (ks.take i) : Nat) : Int) ∧ Below w.heap.size w wr) (fun _ s _ => ((n : Int) - intOf s).toNat)
 case atStart => exact ⟨0,Nat.zero_le _,rfl,by rw [List.take_zero,cnk]; rfl,Below.refl _ _⟩
 case round =>
  obtain ⟨i,hi,rfl,rfl,hb⟩ := hrel; by_cases hlt : i < n
  ·have d0 : (0 : Int) ≤ (i : Int) := by omega
   have d1 : (i : Int) < (n : Int) := by omega
   obtain ⟨g,off,rfl,hg,hj⟩ := hk.out (by omega); obtain ⟨p1,p2,p3,p4,p5,p6,p7,p8,p9,k0,k1,k2,k3,kc⟩ := hj i hlt; have q0 := (hb.cell (p := ⟨g,off + i * 4,none⟩) hg).trans k0; have q1 := (hb.cell (p := ⟨g,off + i * 4 + 1,none⟩) hg).trans k1; have q2 := (hb.cell (p := ⟨g,off + i * 4 + 2,none⟩) hg).trans k2; have q3 := (hb.cell (p := ⟨g,off + i * 4 + 3,none⟩) hg).trans k3; have hil : i < ks.length := by rw [← hn.out]; exact hlt
   have ES : Hid (cnk (ks.take (i + 1)) = cnk (ks.take i) + cn (ks.getD i Tr.Nd.no)) := cnk_snoc ks i hil; have hmax : cnk (ks.take i) + cn (ks.getD i Tr.Nd.no) ≤ 1048576 := by
    have h1 := cnk_snoc ks i hil; have h2 : cnk (ks.take (i + 1)) ≤ cnk ks := by
     have : ∀ (a b : List Nd),cnk a ≤ cnk (a ++ b) := fun a b => by
      induction a with
      | nil => rw [cnk]; omega
      | cons t r ih => rw [List.cons_append,cnk,cnk]; omega
     have h := this (ks.take (i + 1)) (ks.drop (i + 1)); rw [List.take_append_drop] at h; exact h
    have h3 := cnk_wn ks; have := hz.out.2; omega
   have HM : Hid (cnk (ks.take i) + cn (ks.getD i Tr.Nd.no) ≤ 1048576) := hmax; have ECN : Hid (cn (ks.getD i Tr.Nd.no) = if (ks.getD i Tr.Nd.no).kind = 1 then 1 else if (ks.getD i Tr.Nd.no).kind = 2 ∨ (ks.getD i Tr.Nd.no).kind = 3 then 1 + cnk (kids (ks.getD i Tr.Nd.no)) else 0) := by
    show _ = _
    cases hT : ks.getD i Tr.Nd.no with
    | mk kT pT vT ksT => rw [cn]; rfl
   have HB : Hid _ := hb; have KC : Hid _ := kc; generalize (ks.getD i Tr.Nd.no).kind = kd at *; generalize cnk (kids (ks.getD i Tr.Nd.no)) = ck at *; generalize cn (ks.getD i Tr.Nd.no) = cz at *; generalize cnk (ks.take i) = m0 at *; have hw := stw i n hlt hz.out.1; clear hj k0 k1 k2 k3 kc hil hmax hb; have HA : Hid (Below w.heap.size w (wr.alloc (.cells #[.int .i64 kd,.slice p1 p2 p3,.slice p4 p5 p6,.slice p7 p8 p9] 25))) := HB.out.alloc HB.out.size _; by_cases h1 : kd = 1
   ·have EZ : Hid (cnk (ks.take (i + 1)) = m0 + 1) := by show _ = _; rw [ES.out,ECN.out,if_pos h1]
    have hw2 : Hid (wrap64 ((m0 : Int) + 1) = ((m0 + 1 : Nat) : Int)) := by have := HM.out; have := ECN.out; rw [if_pos h1] at this; show _ = _; unfold wrap64; omega
    have hx2 := hw2.out; subst h1; clear KC ECN ES HM; go_wp2_with fail
    go_roundw
    case rel => exact ⟨i + 1,hlt,stv i _ hw.out,by rw [EZ.out]; first | rfl | rw [hw2.out],HA.out⟩
    case measure => exact stm i n hlt _ hw.out
   by_cases h23 : kd = 2 ∨ kd = 3
   ·have EZ : Hid (cnk (ks.take (i + 1)) = m0 + (1 + ck)) := by show _ = _; rw [ES.out,ECN.out,if_neg h1,if_pos h23]
    have hc := ECN.out; rw [if_neg h1,if_pos h23] at hc; have hw2 : Hid (wrap64 (1 + (ck : Int)) = ((1 + ck : Nat) : Int)) := by have := HM.out; show _ = _; unfold wrap64; omega
    have hw3 : Hid (wrap64 ((m0 : Int) + ((1 + ck : Nat) : Int)) = ((m0 + (1 + ck) : Nat) : Int)) := by have := HM.out; show _ = _; unfold wrap64; omega
    clear hc ECN ES HM h1; obtain ⟨s1,es1⟩ : ∃ s1,s1 = 1 + ck := ⟨_,rfl⟩; rw [← es1] at hw2 hw3 EZ; have HS : Hid _ := es1; clear es1; rcases h23 with rfl | rfl
    ·go_wp2_with fail
     refine (KC.out _ HA.out).mono ?_; rintro e w5 ⟨rfl,b5⟩; have B5 : Hid (Below w.heap.size w w5) := HA.out.trans (b5.mono HA.out.size); clear b5 KC HA HB; have hx2 := hw2.out; have hx3 := hw3.out; go_wp2_with fail
     go_roundw
     case rel => exact ⟨i + 1,hlt,stv i _ hw.out,by rw [EZ.out]; first | rfl | rw [hw3.out],B5.out⟩
     case measure => exact stm i n hlt _ hw.out
    ·go_wp2_with fail
     refine (KC.out _ HA.out).mono ?_; rintro e w5 ⟨rfl,b5⟩; have B5 : Hid (Below w.heap.size w w5) := HA.out.trans (b5.mono HA.out.size); clear b5 KC HA HB; have hx2 := hw2.out; have hx3 := hw3.out; go_wp2_with fail
     go_roundw
     case rel => exact ⟨i + 1,hlt,stv i _ hw.out,by rw [EZ.out]; first | rfl | rw [hw3.out],B5.out⟩
     case measure => exact stm i n hlt _ hw.out
   have EZ : Hid (cnk (ks.take (i + 1)) = m0) := by show _ = _; rw [ES.out,ECN.out,if_neg h1,if_neg h23]; rfl
   have e1 : (kd == 1) = false := beq_eq_false_iff_ne.2 h1; have e2 : (kd == 2) = false := beq_eq_false_iff_ne.2 (fun h => h23 (.inl h))
   have e3 : (kd == 3) = false := beq_eq_false_iff_ne.2 (fun h => h23 (.inr h))
   clear KC ECN ES HM h1 h23; go_wp2_with fail
   go_roundw
   case rel => exact ⟨i + 1,hlt,stv i _ hw.out,by rw [EZ.out],HA.out⟩
   case measure => exact stm i n hlt _ hw.out
  ·have ek : i = n := by omega
   subst ek; have HB : Hid _ := hb; have EK : Hid (ks.take i = ks) := by show _ = _; rw [hn.out,List.take_length]
   have d0 : decide ((i : Int) < (i : Int)) = false := decide_eq_false (by omega); clear hb; go_wp2_with fail
   go_ret
   exact ⟨by rw [EK.out]; rfl,HB.out⟩
theorem count_node {t : Nd} (hw : Tr.Wf t) : Tr.wn t ≤ 1048576 → ∀ (S : Nat → Prop) (x : Tr.V4) (w : World),Tr.Nv S w t x → Calls Tryz.prog 40 #[x.2.2.2] w fun e w' => e = .returned (.int .i64 (cnk (kids t) : Nat)) ∧ Below w.heap.size w w' := by
 induction hw with
 | mk k p v ks hks ih =>
  intro hz S x w hx; unfold Tr.wn at hz
  cases hx with
  | mk _ _ _ _ pv vv kv vs hp hv hl hk hi =>
   obtain ⟨a3,c3,rfl,hc3,hq⟩ := id hk; have hkl : ks.length ≤ 1048576 := by have := wnk_many' ks; omega
   refine count_walk ks vs.length a3 c3 w hl ⟨by omega,by omega⟩ hc3 (fun h0 => ?_)
   obtain ⟨g,off,e,_,hg,hc⟩ := hq h0; refine ⟨g,off,e,hg,fun j hj => ?_⟩
   obtain ⟨r0,r1,r2,r3⟩ := hc j hj; have hjk : j < ks.length := by omega
   have nv := hi j hjk; obtain ⟨kk,b1,m1,d1,b2,m2,d2,b3,m3,d3,ev⟩ := Tr.Nv_form nv; have ek : kk = (ks.getD j Tr.Nd.no).kind := by
    rw [ev] at nv; cases hT : ks.getD j Tr.Nd.no with
    | mk kT pT vT ksT =>
     rw [hT] at nv; cases nv
     rfl
   rw [ev] at r0 r1 r2 r3; rw [Nat.mul_comm 4 j] at r0 r1 r2 r3; refine ⟨b1,m1,d1,b2,m2,d2,b3,m3,d3,by rw [← ek]; exact r0,r1,r2,r3,fun wx hb => ?_⟩
   have nv2 := Tr.Nv_below nv hb; have h := ih j hjk (by have := Tr.wnk_one ks j hjk; omega) S _ wx nv2
   rw [ev] at h; exact h
end Pm
end Go.Proofs.YtlbdaccmnpcccaaGreatDoor
namespace Go.Proofs.YtlbdaccmnpcccaaGreatDoor
namespace Tr
open Nb
def may (v : By) (h : Nat) : Bool := decide (1 ≤ v.length) && decide (v.length ≤ 1024) && decide (h ≤ 64) && decide (h % 2 = 0)
def cnt : List Nd → Nat
 | [] => 0
 | t :: r => (if t.kind = 0 then 0 else 1) + cnt r
def pts (v : By) (ks : List Nd) : Nat := (if v = [] then 0 else 1) + cnt ks
mutual
def rd : Nat → Nd → Bool
 | h,.mk k p v ks =>
  if k = 0 then true
  else if k = 1 then ptb p && may v (h + p.length)
  else if k = 2 then decide (p ≠ []) && ptb p && decide (ks.length = 1) && rd1 (h + p.length) ks
  else if k = 3 then decide (h ≤ 64) && decide (ks.length = 16) && (decide (v = []) || may v h) && rda (h + 1) ks && decide (2 ≤ pts v ks)
  else false
def rd1 : Nat → List Nd → Bool
 | _,[] => false
 | h,t :: _ => decide (t.kind = 3) && rd h t
def rda : Nat → List Nd → Bool
 | _,[] => true
 | h,t :: r => rd h t && rda h r
end
theorem rda_iff : ∀ (ks : List Nd) (h : Nat),rda h ks = true ↔ ∀ j,j < ks.length → rd h (ks.getD j Nd.no) = true
 | [],h => by unfold rda; simp
 | t :: r,h => by
  unfold rda
  rw [Bool.and_eq_true,rda_iff r h]; constructor
  ·rintro ⟨h1,h2⟩ j hj; cases j with
   | zero => exact h1
   | succ j => exact h2 j (by simpa using hj)
  ·intro hh; exact ⟨hh 0 (by simp),fun j hj => hh (j + 1) (by simpa using hj)⟩
theorem cnt_pos : ∀ ks : List Nd,1 ≤ cnt ks ↔ ∃ j,j < ks.length ∧ (ks.getD j Nd.no).kind ≠ 0
 | [] => by simp [cnt]
 | t :: r => by
  have ih := cnt_pos r; unfold cnt
  constructor
  ·intro h; by_cases hk : t.kind = 0
   ·rw [if_pos hk] at h; obtain ⟨j,h1,h2⟩ := ih.1 (by omega); exact ⟨j + 1,by simpa using h1,by simpa using h2⟩
   ·exact ⟨0,by simp,by simpa using hk⟩
  ·rintro ⟨j,h1,h2⟩; by_cases hk : t.kind = 0
   ·cases j with
    | zero => exact absurd hk (by simpa using h2)
    | succ j =>
     have := ih.2 ⟨j,by simpa using h1,by simpa using h2⟩; omega
   ·rw [if_neg hk]; omega
theorem cnt_two : ∀ ks : List Nd,2 ≤ cnt ks ↔ ∃ i j,i < j ∧ j < ks.length ∧ (ks.getD i Nd.no).kind ≠ 0 ∧ (ks.getD j Nd.no).kind ≠ 0
 | [] => by simp [cnt]
 | t :: r => by
  have ih := cnt_two r; unfold cnt
  constructor
  ·intro h; by_cases hk : t.kind = 0
   ·rw [if_pos hk] at h; obtain ⟨i,j,h1,h2,h3,h4⟩ := ih.1 (by omega); exact ⟨i + 1,j + 1,by omega,by simpa using h2,by simpa using h3,by simpa using h4⟩
   ·rw [if_neg hk] at h; obtain ⟨j,h1,h2⟩ := (cnt_pos r).1 (by omega); exact ⟨0,j + 1,by omega,by simpa using h1,by simpa using hk,by simpa using h2⟩
  ·rintro ⟨i,j,h1,h2,h3,h4⟩; cases j with
   | zero => omega
   | succ j =>
    cases i with
    | zero =>
     have := (cnt_pos r).2 ⟨j,by simpa using h2,by simpa using h4⟩; rw [if_neg (by simpa using h3)]; omega
    | succ i =>
     have := ih.2 ⟨i,j,by omega,by simpa using h2,by simpa using h3,by simpa using h4⟩; omega
theorem pts_two (v : By) (ks : List Nd) (hl : ks.length = 16) : 2 ≤ pts v ks ↔ Two v ks := by
 unfold pts Two
 have h1 := cnt_pos ks; have h2 := cnt_two ks; rw [hl] at h1 h2; constructor
 ·intro h; by_cases hv : v = []
  ·rw [if_pos hv] at h; exact .inr (h2.1 (by omega))
  ·rw [if_neg hv] at h; exact .inl ⟨hv,h1.1 (by omega)⟩
 ·rintro (⟨hv,h⟩ | h)
  ·have := h1.2 h; rw [if_neg hv]; omega
  ·have := h2.2 h; omega
theorem may_iff (v : By) (h : Nat) : may v h = true ↔ v ≠ [] ∧ v.length ≤ 1024 ∧ h ≤ 64 ∧ h % 2 = 0 := by
 unfold may
 simp only [Bool.and_eq_true,decide_eq_true_eq]; constructor
 ·rintro ⟨⟨⟨h1,h2⟩,h3⟩,h4⟩; exact ⟨fun e => by rw [e] at h1; simp at h1,h2,h3,h4⟩
 ·rintro ⟨h1,h2,h3,h4⟩; exact ⟨⟨⟨List.length_pos_iff.2 h1,h2⟩,h3⟩,h4⟩
def Rh (h : Nat) (t : Nd) : Prop := Rs t ∧ ∀ q,gt t q ≠ [] → (h + q.length) % 2 = 0 ∧ h + q.length ≤ 64 ∧ (gt t q).length ≤ 1024
theorem rd_wf {t : Nd} (hw : Wf t) : ∀ h : Nat,rd h t = true ↔ Rh h t := by
 induction hw with
 | mk k p v ks _ ih =>
  intro h; unfold rd
  by_cases k0 : k = 0
  ·subst k0; rw [if_pos rfl]; exact ⟨fun _ => ⟨.none _ _ _,fun q hq => absurd (gt_zero 0 p v ks q (by decide) (by decide) (by decide)) hq⟩,fun _ => rfl⟩
  rw [if_neg k0]; by_cases k1 : k = 1
  ·subst k1; rw [if_pos rfl,Bool.and_eq_true,ptb_iff,may_iff]; constructor
   ·rintro ⟨hp,hv,h1,h2,h3⟩; refine ⟨.leaf _ _ _ hp hv,fun q hq => ?_⟩
    rw [gt_leaf] at hq ⊢; split at hq
    ·rename_i e; subst e; rw [if_pos rfl]; exact ⟨h3,h2,h1⟩
    ·exact absurd rfl hq
   ·rintro ⟨hs,hq⟩; cases hs with
    | leaf _ _ _ hp hv =>
     have := hq p (by rw [gt_leaf,if_pos rfl]; exact hv)
     rw [gt_leaf,if_pos rfl] at this; exact ⟨hp,hv,this.2.2,this.2.1,this.1⟩
  rw [if_neg k1]; by_cases k2 : k = 2
  ·subst k2; rw [if_pos rfl]; simp only [Bool.and_eq_true,decide_eq_true_eq,ptb_iff]; constructor
   ·rintro ⟨⟨⟨hp0,hp⟩,hl⟩,hr⟩; obtain ⟨t,rfl⟩ := List.length_eq_one_iff.1 hl; unfold rd1 at hr
    rw [Bool.and_eq_true,decide_eq_true_eq] at hr; obtain ⟨r1,r2⟩ := (ih 0 (by simp) (h + p.length)).1 hr.2; refine ⟨.road p v t hp hp0 hr.1 r1,fun q hq => ?_⟩
    obtain ⟨r,rfl,hr⟩ := gt_road_off p v t q hq; rw [gt_road_at]; have := r2 r hr; rw [List.length_append]; rw [List.getD_cons_zero] at this; refine ⟨by have := this.1; rwa [Nat.add_assoc] at this,by have := this.2.1; omega,this.2.2⟩
   ·rintro ⟨hs,hq⟩; cases hs with
    | road _ _ t hp h0 hk ht =>
     refine ⟨⟨⟨h0,hp⟩,rfl⟩,?_⟩; unfold rd1
     rw [Bool.and_eq_true,decide_eq_true_eq]; refine ⟨hk,(ih 0 (by simp) (h + p.length)).2 ⟨ht,fun q hq2 => ?_⟩⟩
     have := hq (p ++ q) (by rw [gt_road_at]; exact hq2)
     rw [gt_road_at,List.length_append,← Nat.add_assoc] at this; exact this
  rw [if_neg k2]; by_cases k3 : k = 3
  ·subst k3; rw [if_pos rfl]; simp only [Bool.and_eq_true,Bool.or_eq_true,decide_eq_true_eq,may_iff,rda_iff]; constructor
   ·rintro ⟨⟨⟨⟨h64,hl⟩,hv⟩,hk⟩,h2⟩; have key : ∀ j,j < 16 → Rh (h + 1) (ks.getD j Nd.no) := fun j hj => (ih j (by omega) (h + 1)).1 (hk j (by omega))
    refine ⟨.fork p v ks hl (fun j hj => (key j hj).1) ((pts_two v ks hl).1 h2),fun q hq => ?_⟩
    cases q with
    | nil =>
     rw [gt_fork_nil] at hq ⊢; rcases hv with hv | hv
     ·exact absurd hv hq
     ·exact ⟨hv.2.2.2,hv.2.2.1,hv.2.1⟩
    | cons c q =>
     rw [gt_fork_cons] at hq ⊢; by_cases hc : c.toNat < 16
     ·have := (key c.toNat hc).2 q hq; rw [List.length_cons]; refine ⟨?_,by have := this.2.1; omega,this.2.2⟩
      have e : h + (q.length + 1) = h + 1 + q.length := by omega
      rw [e]; exact this.1
     ·rw [List.getD_eq_getElem?_getD,List.getElem?_eq_none (by omega),Option.getD_none,gt_no] at hq; exact absurd rfl hq
   ·rintro ⟨hs,hq⟩; obtain ⟨q0,hq0⟩ := some_val hs (by show (3 : Int) ≠ 0; decide)
    cases hs with
    | fork _ _ _ hl hks h2 =>
     refine ⟨⟨⟨⟨by have := (hq q0 hq0).2.1; omega,hl⟩,?_⟩,fun j hj => ?_⟩,(pts_two v ks hl).2 h2⟩
     ·by_cases hv : v = []
      ·exact .inl hv
      ·have := hq [] (by rw [gt_fork_nil]; exact hv)
       rw [gt_fork_nil] at this; exact .inr ⟨hv,this.2.2,this.2.1,this.1⟩
     ·refine (ih j hj (h + 1)).2 ⟨hks j (by omega),fun q hq2 => ?_⟩
      have := hq (UInt8.ofNat j :: q) (by rw [gt_fork_cons,u8_toNat j (by omega)]; exact hq2)
      rw [gt_fork_cons,u8_toNat j (by omega),List.length_cons] at this; have e : h + (q.length + 1) = h + 1 + q.length := by omega
      rw [e] at this; exact this
  rw [if_neg k3]; constructor
  ·intro hh; cases hh
  ·rintro ⟨hs,_⟩; cases hs <;> simp_all
theorem rd_right (t : Nd) : rd 0 t = true ↔ Right t := by
 rw [rd_wf (wf_any t) 0]; unfold Rh Right Okr
 simp only [Nat.zero_add]; constructor
 ·rintro ⟨h1,h2⟩; exact ⟨h1,fun q hq => ⟨(h2 q hq).1,(h2 q hq).2.1,hq,(h2 q hq).2.2⟩⟩
 ·rintro ⟨h1,h2⟩; exact ⟨h1,fun q hq => ⟨(h2 q hq).1,(h2 q hq).2.1,(h2 q hq).2.2.2⟩⟩
end Tr
end Go.Proofs.YtlbdaccmnpcccaaGreatDoor
namespace Go.Proofs.YtlbdaccmnpcccaaGreatDoor
namespace Tr
open Nb
theorem cmn_le : ∀ p q : By,cmn p q ≤ p.length ∧ cmn p q ≤ q.length
 | [],q => by simp [cmn]
 | c :: p,[] => by simp [cmn]
 | c :: p,d :: q => by
  have := cmn_le p q; simp only [cmn,List.length_cons]; split <;> omega
end Tr
end Go.Proofs.YtlbdaccmnpcccaaGreatDoor
namespace Go.Proofs.YtlbdaccmnpcccaaGreatDoor
namespace Tr
open Nb Go.RowKit
theorem mayhave_any (v : By) (h : Nat) (ao : Option Addr) (cap : Nat) (w : World) :
  Calls Tryz.prog 53 #[.slice ao v.length cap,.int .i64 (h : Int)] w fun e w' => e = .returned (.bool (may v h)) ∧ w' = w := by
 unfold may
 generalize v.length = n; go_enter Tryz.func53,Tryz.ntmps53
 by_cases h1 : 1 ≤ n
 ·have d1 : decide ((1 : Int) ≤ (n : Int)) = true := decide_eq_true (by omega); by_cases h2 : n ≤ 1024
  ·have d2 : decide ((n : Int) ≤ 1024) = true := decide_eq_true (by omega); by_cases h3 : h ≤ 64
   ·have d3 : decide ((h : Int) ≤ 64) = true := decide_eq_true (by omega); have d4 : ((h : Int) % 2 == 0) = decide (h % 2 = 0) := by
     rw [Bool.eq_iff_iff,beq_iff_eq,decide_eq_true_eq]; omega
    go_wp2_with fail
    go_ret
    simp [h1,h2,h3]
   ·have d3 : decide ((h : Int) ≤ 64) = false := decide_eq_false (by omega); go_wp2_with fail
    go_ret
    simp [h1,h2,h3]
  ·have d2 : decide ((n : Int) ≤ 1024) = false := decide_eq_false (by omega); go_wp2_with fail
   go_ret
   simp [h1,h2]
 ·have d1 : decide ((1 : Int) ≤ (n : Int)) = false := decide_eq_false (by omega); go_wp2_with fail
  go_ret
  simp [h1]
theorem run_under {P : Program} {t : TypeId} {d : TypeDesc} (h : P.underlying t = some d) (w : World) : (underlying t).run P w = .ok d w := by
 unfold underlying
 simp [h]
theorem as_none (v : Value) (w : World) : (Instr.typeAssert (.iface 97 v) 68 97 true).run Tryz.prog w = .ok (.tuple #[v,.bool true]) w := by
 unfold Instr.typeAssert
 rw [Sem.run_bind,run_under Tryz.underlying97]; rfl
theorem no_none (t : TypeId) (v : Value) (w : World) (h : t ≠ 97) : (Instr.typeAssert (.iface t v) 68 97 true).run Tryz.prog w = .ok (.tuple #[.agg #[],.bool false]) w := by
 unfold Instr.typeAssert
 rw [Sem.run_bind,run_under Tryz.underlying97]; show Sem.run Tryz.prog (if t = 97 then _ else _) w = _
 rw [if_neg h]; simp only [if_true]; rw [Sem.run_bind,Tryz.zeroValue97]; rfl
theorem isnone_none (w : World) :
  Calls Tryz.prog 85 #[.iface 97 (.agg #[])] w fun e w' => e = .returned (.bool true) ∧ Below w.heap.size w w' := by
 have a1 := as_none (.agg #[]); go_enter Tryz.func85,Tryz.ntmps85
 go_wp2_with fail
 go_ret
 exact ⟨rfl,(Below.refl _ _).alloc (Nat.le_refl _) _⟩
theorem isnone_some (t : TypeId) (x : Value) (w : World) (h : t ≠ 97) :
  Calls Tryz.prog 85 #[.iface t x] w fun e w' => e = .returned (.bool false) ∧ Below w.heap.size w w' := by
 have a1 := fun w => no_none t x w h
 go_enter Tryz.func85,Tryz.ntmps85
 go_wp2_with fail
 go_ret
 exact ⟨rfl,(Below.refl _ _).alloc (Nat.le_refl _) _⟩
end Tr
end Go.Proofs.YtlbdaccmnpcccaaGreatDoor
namespace Go.Proofs.YtlbdaccmnpcccaaGreatDoor
namespace Tr
open Nb Go.RowKit
def Fb (w : World) (k : Nat) : Prop := ∃ c,w.heap[k]? = some (.cells c 141 (0,0))
def Sb (lo : Nat) (w : World) (k : Nat) : Prop := k < lo ∨ ¬ Fb w k
structure Ch (lo : Nat) (G : Nat → Prop) (w w' : World) : Prop where
 os : w'.os = w.os
 tape : w'.tape = w.tape
 output : w'.output = w.output
 size : w.heap.size ≤ w'.heap.size
 block : ∀ k,k < w.heap.size → ¬ (G k ∧ lo ≤ k ∧ Fb w k) → w'.heap[k]? = w.heap[k]?
theorem ch_below {lo : Nat} {G : Nat → Prop} {w w' : World} (h : Below w.heap.size w w') : Ch lo G w w' := ⟨h.os,h.tape,h.output,h.size,fun k hk _ => h.block k hk⟩
theorem Bs_ch {lo : Nat} {G : Nat → Prop} {b : By} {v : Value} {w w' : World} (h : Bs (Sb lo w) b v w) (hc : Ch lo G w w') : Bs (Sb lo w') b v w' := by
 obtain ⟨ao,cap,h1,h2,h4⟩ := h; refine ⟨ao,cap,h1,h2,fun h0 => ?_⟩
 obtain ⟨k,off,e,hs,hlt,hcell⟩ := h4 h0; have eb : w'.heap[k]? = w.heap[k]? := hc.block k hlt (fun ⟨_,g2,g3⟩ => by
  rcases hs with hs | hs
  ·omega
  ·exact hs g3)
 refine ⟨k,off,e,?_,Nat.lt_of_lt_of_le hlt hc.size,fun j hj => (World.cell?_of_block (a := ⟨k,off + j,none⟩) eb).trans (hcell j hj)⟩
 rcases hs with hs | hs
 ·exact .inl hs
 ·refine .inr (fun ⟨x,hx⟩ => hs ⟨x,by rw [← eb]; exact hx⟩)
theorem Bs_lo {lo : Nat} {b : By} {v : Value} {w : World} (h : Bs (· < lo) b v w) : Bs (Sb lo w) b v w := Bs_mono h (fun _ hk _ => .inl hk)
inductive In (lo : Nat) (w : World) : Nd → Value → (Nat → Prop) → Prop where
 | none (p v : By) (ks : List Nd) (F : Nat → Prop) : In lo w (.mk 0 p v ks) (.iface 97 (.agg #[])) F
 | leaf (p v : By) (ks : List Nd) (pv vv : Value) (F : Nat → Prop) (hp : Bs (Sb lo w) p pv w) (hv : Bs (Sb lo w) v vv w) : In lo w (.mk 1 p v ks) (.iface 111 (.agg #[pv,vv])) F
 | road (p v : By) (t : Nd) (pv : Value) (g : Nat) (F : Nat → Prop) (hp : Bs (Sb lo w) p pv w) (hk : In lo w t (.iface 113 (.pointer (some ⟨g,0,Option.none⟩))) F) : In lo w (.mk 2 p v [t]) (.iface 125 (.agg #[pv,.pointer (some ⟨g,0,Option.none⟩)])) F
 | fork (p v : By) (ks : List Nd) (g : Nat) (c : Array Value) (F : Nat → Prop) (D : Nat → Nat → Prop) (hl : ks.length = 16) (hlo : lo ≤ g) (hb : w.heap[g]? = some (.cells c 141 (0,0))) (hc : c.size = 17) (hF : F g)
   (hv : Bs (Sb lo w) v (c.getD 0 undef) w) (hi : ∀ j,j < 16 → In lo w (ks.getD j Nd.no) (c.getD (j + 1) undef) (D j)) (hg : ∀ j,j < 16 → ¬ D j g) (hD : ∀ i j x,i < 16 → j < 16 → D i x → D j x → i = j) (hs : ∀ j x,j < 16 → D j x → F x) :
   In lo w (.mk 3 p v ks) (.iface 113 (.pointer (some ⟨g,0,Option.none⟩))) F
theorem In_mono {lo : Nat} {w : World} {t : Nd} {v : Value} {F F' : Nat → Prop} (h : In lo w t v F) (hF : ∀ x,F x → F' x) : In lo w t v F' := by
 induction h generalizing F' with
 | none p v ks F => exact .none p v ks F'
 | leaf p v ks pv vv F hp hv => exact .leaf p v ks pv vv F' hp hv
 | road p v t pv g F hp hk ih => exact .road p v t pv g F' hp (ih hF)
 | fork p v ks g c F D hl hlo hb hc hFg hv hi hg hD hs ih => exact .fork p v ks g c F' D hl hlo hb hc (hF g hFg) hv hi hg hD (fun j x hj hx => hF x (hs j x hj hx))
theorem In_lt {lo : Nat} {w : World} {t : Nd} {v : Value} {F : Nat → Prop} (h : In lo w t v F) : In lo w t v (fun x => F x ∧ x < w.heap.size) := by
 induction h with
 | none p v ks F => exact .none p v ks _
 | leaf p v ks pv vv F hp hv => exact .leaf p v ks pv vv _ hp hv
 | road p v t pv g F hp hk ih => exact .road p v t pv g _ hp ih
 | fork p v ks g c F D hl hlo hb hc hFg hv hi hg hD hs ih => exact .fork p v ks g c _ (fun j x => D j x ∧ x < w.heap.size) hl hlo hb hc ⟨hFg,Pk.lt_of_heap hb⟩ hv ih (fun j hj h => hg j hj h.1) (fun i j x h1 h2 h3 h4 => hD i j x h1 h2 h3.1 h4.1) (fun j x hj hx => ⟨hs j x hj hx.1,hx.2⟩)
theorem In_ch {lo : Nat} {G : Nat → Prop} {w w' : World} {t : Nd} {v : Value} {F : Nat → Prop} (h : In lo w t v F) (hc : Ch lo G w w') (hd : ∀ x,x < w.heap.size → F x → ¬ G x) : In lo w' t v F := by
 induction h with
 | none p v ks F => exact .none p v ks F
 | leaf p v ks pv vv F hp hv => exact .leaf p v ks pv vv F (Bs_ch hp hc) (Bs_ch hv hc)
 | road p v t pv g F hp hk ih => exact .road p v t pv g F (Bs_ch hp hc) (ih hd)
 | fork p v ks g c F D hl hlo hb hcs hFg hv hi hg hD hs ih =>
  have hlt := Pk.lt_of_heap hb; exact .fork p v ks g c F D hl hlo (by rw [hc.block g hlt (fun x => hd g hlt hFg x.1)]; exact hb) hcs hFg (Bs_ch hv hc) (fun j hj => ih j hj (fun x hx hdx => hd x hx (hs j x hj hdx))) hg hD hs
theorem In_below {lo : Nat} {w w' : World} {t : Nd} {v : Value} {F : Nat → Prop} (h : In lo w t v F) (hb : Below w.heap.size w w') : In lo w' t v F := In_ch (G := fun _ => False) h (ch_below hb) (fun _ _ _ h => h)
theorem isnone_in {lo : Nat} {w : World} {t : Nd} {v : Value} {F : Nat → Prop} (h : In lo w t v F) (w2 : World) :
  Calls Tryz.prog 85 #[v] w2 fun e w' => e = .returned (.bool (decide (t.kind = 0))) ∧ Below w2.heap.size w2 w' := by
 cases h with
 | none p v ks F => exact isnone_none w2
 | leaf p v ks pv vv F hp hv => exact isnone_some _ _ w2 (by decide)
 | road p v t pv g F hp hk => exact isnone_some _ _ w2 (by decide)
 | fork p v ks g c F D hl hlo hb hc hFg hv hi hg hD hs => exact isnone_some _ _ w2 (by decide)
theorem In_form {lo : Nat} {w : World} {t : Nd} {v : Value} {F : Nat → Prop} (h : In lo w t v F) : ∃ ty x,v = .iface ty x := by
 cases h with
 | none p v ks F => exact ⟨_,_,rfl⟩
 | leaf p v ks pv vv F hp hv => exact ⟨_,_,rfl⟩
 | road p v t pv g F hp hk => exact ⟨_,_,rfl⟩
 | fork p v ks g c F D hl hlo hb hc hFg hv hi hg hD hs => exact ⟨_,_,rfl⟩
end Tr
end Go.Proofs.YtlbdaccmnpcccaaGreatDoor
