import Derived.Test.YtlbdaccmnpcccaaGreatDoorPackE
import Derived.Test.YtlbdaccmnpcccaaGreatDoorPackF
import Derived.Test.YtlbdaccmnpcccaaGreatDoorPackD
import Derived.Test.YtlbdaccmnpcccaaGreatDoorPackA
import Derived.Lib.ConvBytes
import Derived.Laws.Concat
import Derived.Deep.AppendLies
import Derived.Deep.Cut
set_option maxRecDepth 100000
set_option maxHeartbeats 4000000
namespace Go.Proofs.YtlbdaccmnpcccaaGreatDoor
namespace Rs
open Nb Sp Pk Go.RowKit
abbrev zS : Shp := (0,[],[],[])
end Rs
end Go.Proofs.YtlbdaccmnpcccaaGreatDoor
namespace Go.Proofs.YtlbdaccmnpcccaaGreatDoor
namespace Tr
open Nb
abbrev By := List UInt8
abbrev Rt := List (By × By)
inductive Nd where
 | mk (kind : Int) (path value : By) (kids : List Nd)
def Nd.no : Nd := .mk 0 [] [] []
def Nd.kind : Nd → Int
 | .mk k _ _ _ => k
mutual
def gt : Nd → By → By
 | .mk k p v ks,q =>
  if k = 1 then (if q = p then v else [])
  else if k = 2 then (if p.isPrefixOf q then gtk ks 0 (q.drop p.length) else [])
  else if k = 3 then (if q = [] then v else gtk ks (q.headD 0).toNat q.tail)
  else []
def gtk : List Nd → Nat → By → By
 | [],_,_ => []
 | t :: _,0,q => gt t q
 | _ :: r,i + 1,q => gtk r i q
end
mutual
def bn : Nd → Nd
 | .mk k p v ks => if k = 1 then .mk 1 p v [] else if k = 2 then .mk 2 p [] (bns ks) else if k = 3 then .mk 3 [] v (bns ks) else .mk k [] [] []
def bns : List Nd → List Nd
 | [] => []
 | t :: r => bn t :: bns r
end
theorem gt_no (q : By) : gt Nd.no q = [] := by
 unfold Nd.no gt
 simp
theorem gtk_getD : ∀ (ks : List Nd) (i : Nat) (q : By),gtk ks i q = gt (ks.getD i Nd.no) q
 | [],i,q => by
  unfold gtk
  rw [List.getD_eq_getElem?_getD,List.getElem?_nil,Option.getD_none,gt_no]
 | t :: r,0,q => by unfold gtk; rw [List.getD_cons_zero]
 | t :: r,i + 1,q => by
  unfold gtk
  rw [List.getD_cons_succ,gtk_getD r i q]
theorem bns_len : ∀ ks : List Nd,(bns ks).length = ks.length
 | [] => rfl
 | t :: r => by unfold bns; rw [List.length_cons,List.length_cons,bns_len r]
theorem bn_no : bn Nd.no = Nd.no := by unfold Nd.no bn; simp
theorem bns_getD : ∀ (ks : List Nd) (j : Nat),(bns ks).getD j Nd.no = bn (ks.getD j Nd.no)
 | [],j => by unfold bns; simp [bn_no]
 | t :: r,0 => by unfold bns; simp
 | t :: r,j + 1 => by unfold bns; simpa using bns_getD r j
theorem bns_ext (xs cs : List Nd) (hl : xs.length = cs.length) (h : ∀ j,j < xs.length → bn (xs.getD j Nd.no) = bn (cs.getD j Nd.no)) : bns xs = bns cs := by
 induction xs generalizing cs with
 | nil =>
  cases cs with
  | nil => rfl
  | cons c r => simp at hl
 | cons a xs ih =>
  cases cs with
  | nil => simp at hl
  | cons c cs =>
   unfold bns
   have h0 := h 0 (by simp); rw [List.getD_cons_zero,List.getD_cons_zero] at h0; rw [h0,ih cs (by simpa using hl) (fun j hj => by simpa using h (j + 1) (by simpa using hj))]
def Two (v : By) (ks : List Nd) : Prop := (v ≠ [] ∧ ∃ j,j < 16 ∧ (ks.getD j Nd.no).kind ≠ 0) ∨ ∃ i j,i < j ∧ j < 16 ∧ (ks.getD i Nd.no).kind ≠ 0 ∧ (ks.getD j Nd.no).kind ≠ 0
inductive Rs : Nd → Prop where
 | none (p v : By) (ks : List Nd) : Rs (.mk 0 p v ks)
 | leaf (p v : By) (ks : List Nd) (hp : Pt p) (hv : v ≠ []) : Rs (.mk 1 p v ks)
 | road (p v : By) (t : Nd) (hp : Pt p) (h0 : p ≠ []) (hk : t.kind = 3) (h : Rs t) : Rs (.mk 2 p v [t])
 | fork (p v : By) (ks : List Nd) (hl : ks.length = 16) (h : ∀ j,j < 16 → Rs (ks.getD j Nd.no)) (h2 : Two v ks) : Rs (.mk 3 p v ks)
theorem gt_leaf (p v : By) (ks : List Nd) (q : By) : gt (.mk 1 p v ks) q = if q = p then v else [] := by
 unfold gt; simp
theorem gt_road (p v : By) (t : Nd) (q : By) : gt (.mk 2 p v [t]) q = if p.isPrefixOf q then gt t (q.drop p.length) else [] := by
 rw [gt,if_neg (by decide),if_pos rfl,gtk]
theorem gt_road_at (p v : By) (t : Nd) (q : By) : gt (.mk 2 p v [t]) (p ++ q) = gt t q := by
 rw [gt_road,if_pos (by simp),List.drop_left]
theorem gt_road_off (p v : By) (t : Nd) (q : By) (h : gt (.mk 2 p v [t]) q ≠ []) : ∃ r,q = p ++ r ∧ gt t r ≠ [] := by
 rw [gt_road] at h; split at h
 ·rename_i hp
  obtain ⟨r,rfl⟩ := List.isPrefixOf_iff_prefix.1 hp; rw [List.drop_left] at h; exact ⟨r,rfl,h⟩
 ·exact absurd rfl h
theorem gt_fork_nil (p v : By) (ks : List Nd) : gt (.mk 3 p v ks) [] = v := by unfold gt; simp
theorem gt_fork_cons (p v : By) (ks : List Nd) (c : UInt8) (q : By) : gt (.mk 3 p v ks) (c :: q) = gt (ks.getD c.toNat Nd.no) q := by
 rw [gt,if_neg (by decide),if_neg (by decide),if_pos rfl,if_neg (by simp),gtk_getD]; rfl
theorem gt_zero (k : Int) (p v : By) (ks : List Nd) (q : By) (h1 : k ≠ 1) (h2 : k ≠ 2) (h3 : k ≠ 3) : gt (.mk k p v ks) q = [] := by
 unfold gt
 rw [if_neg h1,if_neg h2,if_neg h3]
theorem u8_toNat (i : Nat) (h : i < 16) : (UInt8.ofNat i).toNat = i := of_lt i (by omega)
theorem some_val {t : Nd} (h : Rs t) : t.kind ≠ 0 → ∃ q,gt t q ≠ [] := by
 induction h with
 | none p v ks => intro h; exact absurd rfl h
 | leaf p v ks hp hv => intro _; exact ⟨p,by rw [gt_leaf,if_pos rfl]; exact hv⟩
 | road p v t hp h0 hk h ih =>
  intro _; obtain ⟨q,hq⟩ := ih (by rw [hk]; decide)
  exact ⟨p ++ q,by rw [gt_road_at]; exact hq⟩
 | fork p v ks hl h h2 ih =>
  intro _; rcases h2 with ⟨hv,_⟩ | ⟨i,j,hij,hj,hi,_⟩
  ·exact ⟨[],by rw [gt_fork_nil]; exact hv⟩
  ·obtain ⟨q,hq⟩ := ih i (by omega) hi; exact ⟨UInt8.ofNat i :: q,by rw [gt_fork_cons,u8_toNat i (by omega)]; exact hq⟩
theorem fork_two {t : Nd} (h : Rs t) (hk : t.kind = 3) : ∃ q r,gt t q ≠ [] ∧ gt t r ≠ [] ∧ cmn q r = 0 ∧ q ≠ r := by
 cases h with
 | none p v ks => exact absurd hk (by show ¬ (0 : Int) = 3; decide)
 | leaf p v ks hp hv => exact absurd hk (by show ¬ (1 : Int) = 3; decide)
 | road p v t hp h0 hk2 h => exact absurd hk (by show ¬ (2 : Int) = 3; decide)
 | fork p v ks hl h h2 =>
  rcases h2 with ⟨hv,j,hj,hkj⟩ | ⟨i,j,hij,hj,hki,hkj⟩
  ·obtain ⟨q,hq⟩ := some_val (h j hj) hkj; exact ⟨[],UInt8.ofNat j :: q,by rw [gt_fork_nil]; exact hv,by rw [gt_fork_cons,u8_toNat j hj]; exact hq,rfl,by simp⟩
  ·obtain ⟨q,hq⟩ := some_val (h i (by omega)) hki; obtain ⟨r,hr⟩ := some_val (h j hj) hkj; have hne : UInt8.ofNat i ≠ UInt8.ofNat j := fun e => by
    have := congrArg UInt8.toNat e; rw [u8_toNat i (by omega),u8_toNat j hj] at this; omega
   refine ⟨UInt8.ofNat i :: q,UInt8.ofNat j :: r,by rw [gt_fork_cons,u8_toNat i (by omega)]; exact hq,by rw [gt_fork_cons,u8_toNat j hj]; exact hr,?_,?_⟩
   ·simp only [cmn,if_neg hne]
   ·intro e; injection e with e _
    exact hne e
theorem cmn_app (p q r : By) : cmn (p ++ q) (p ++ r) = p.length + cmn q r := by
 induction p with
 | nil => simp
 | cons c p ih => simp only [List.cons_append,cmn,if_true,ih,List.length_cons]; omega
theorem cmn_pre {p q r : By} (hq : p <+: q) (hr : p <+: r) : p.length ≤ cmn q r := by
 obtain ⟨x,rfl⟩ := hq; obtain ⟨y,rfl⟩ := hr; rw [cmn_app]; omega
theorem pre_len {p q x : By} (hp : p <+: x) (hq : q <+: x) (h : p.length = q.length) : p = q := by
 obtain ⟨a,rfl⟩ := hp; exact (List.prefix_of_prefix_length_le ⟨a,rfl⟩ hq (by omega)).eq_of_length h
theorem uniq {a : Nd} (ha : Rs a) : ∀ b : Nd,Rs b → (∀ q,gt a q = gt b q) → bn a = bn b := by
 induction ha with
 | none p v ks =>
  intro b hb h; by_cases hk : b.kind = 0
  ·obtain ⟨k,p2,v2,ks2⟩ := b; have hk : k = 0 := hk; subst hk; unfold bn; simp
  ·obtain ⟨q,hq⟩ := some_val hb hk; rw [← h q,gt_zero 0 p v ks q (by decide) (by decide) (by decide)] at hq; exact absurd rfl hq
 | leaf p v ks hp hv =>
  intro b hb h; have one : ∀ q,gt b q ≠ [] → q = p := fun q hq => by
   rw [← h q,gt_leaf] at hq; split at hq
   ·assumption
   ·exact absurd rfl hq
  cases hb with
  | none p2 v2 ks2 =>
   have := h p; rw [gt_leaf,if_pos rfl,gt_zero 0 p2 v2 ks2 p (by decide) (by decide) (by decide)] at this; exact absurd this hv
  | leaf p2 v2 ks2 hp2 hv2 =>
   have e : p2 = p := one p2 (by rw [gt_leaf,if_pos rfl]; exact hv2)
   subst e; have e2 := h p2; rw [gt_leaf,gt_leaf,if_pos rfl,if_pos rfl] at e2; subst e2; unfold bn; simp
  | road p2 v2 t hp2 h0 hk ht =>
   obtain ⟨q,r,hq,hr,_,hne⟩ := fork_two ht hk; have e1 := one (p2 ++ q) (by rw [gt_road_at]; exact hq)
   have e2 := one (p2 ++ r) (by rw [gt_road_at]; exact hr)
   exact absurd (List.append_cancel_left (e1.trans e2.symm)) hne
  | fork p2 v2 ks2 hl hks h2 =>
   obtain ⟨q,r,hq,hr,_,hne⟩ := fork_two (.fork p2 v2 ks2 hl hks h2) rfl; exact absurd ((one q hq).trans (one r hr).symm) hne
 | road p v t hp h0 hk ht ih =>
  intro b hb h; obtain ⟨q,r,hq,hr,hc,hne⟩ := fork_two ht hk; have hq' : gt b (p ++ q) ≠ [] := by rw [← h,gt_road_at]; exact hq
  have hr' : gt b (p ++ r) ≠ [] := by rw [← h,gt_road_at]; exact hr
  have all : ∀ x,gt b x ≠ [] → p <+: x := fun x hx => by
   rw [← h x] at hx; obtain ⟨y,rfl,_⟩ := gt_road_off p v t x hx; exact ⟨y,rfl⟩
  cases hb with
  | none p2 v2 ks2 => rw [gt_zero 0 p2 v2 ks2 _ (by decide) (by decide) (by decide)] at hq'; exact absurd rfl hq'
  | leaf p2 v2 ks2 hp2 hv2 =>
   rw [gt_leaf] at hq' hr'; split at hq'
   ·split at hr'
    ·rename_i e1 e2
     exact absurd (List.append_cancel_left (e1.trans e2.symm)) hne
    ·exact absurd rfl hr'
   ·exact absurd rfl hq'
  | road p2 v2 t2 hp2 h02 hk2 ht2 =>
   obtain ⟨q2,r2,hq2,hr2,hc2,hne2⟩ := fork_two ht2 hk2; have l1 : p2.length ≤ p.length := by
    obtain ⟨x,ex,_⟩ := gt_road_off p2 v2 t2 _ hq'; obtain ⟨y,ey,_⟩ := gt_road_off p2 v2 t2 _ hr'; have := cmn_pre (p := p2) ⟨x,ex.symm⟩ ⟨y,ey.symm⟩; rw [cmn_app,hc] at this; omega
   have l2 : p.length ≤ p2.length := by
    have := cmn_pre (all (p2 ++ q2) (by rw [gt_road_at]; exact hq2)) (all (p2 ++ r2) (by rw [gt_road_at]; exact hr2))
    rw [cmn_app,hc2] at this; omega
   have e : p = p2 := pre_len (all (p2 ++ q2) (by rw [gt_road_at]; exact hq2)) ⟨q2,rfl⟩ (by omega)
   subst e; have k := ih t2 ht2 (fun x => by have := h (p ++ x); rwa [gt_road_at,gt_road_at] at this)
   unfold bn
   simp [bns,k]
  | fork p2 v2 ks2 hl hks h2 =>
   obtain ⟨q2,r2,hq2,hr2,hc2,hne2⟩ := fork_two (.fork p2 v2 ks2 hl hks h2) rfl; have := cmn_pre (all q2 hq2) (all r2 hr2); rw [hc2] at this; exact absurd (List.length_eq_zero_iff.1 (by omega)) h0
 | fork p v ks hl hks h2 ih =>
  intro b hb h; obtain ⟨q,r,hq,hr,hc,hne⟩ := fork_two (.fork p v ks hl hks h2) rfl; have hq' : gt b q ≠ [] := by rw [← h]; exact hq
  have hr' : gt b r ≠ [] := by rw [← h]; exact hr
  cases hb with
  | none p2 v2 ks2 => rw [gt_zero 0 p2 v2 ks2 _ (by decide) (by decide) (by decide)] at hq'; exact absurd rfl hq'
  | leaf p2 v2 ks2 hp2 hv2 =>
   rw [gt_leaf] at hq' hr'; split at hq'
   ·split at hr'
    ·rename_i e1 e2
     exact absurd (e1.trans e2.symm) hne
    ·exact absurd rfl hr'
   ·exact absurd rfl hq'
  | road p2 v2 t2 hp2 h02 hk2 ht2 =>
   obtain ⟨x,ex,_⟩ := gt_road_off p2 v2 t2 _ hq'; obtain ⟨y,ey,_⟩ := gt_road_off p2 v2 t2 _ hr'; have := cmn_pre (p := p2) ⟨x,ex.symm⟩ ⟨y,ey.symm⟩; rw [hc] at this; exact absurd (List.length_eq_zero_iff.1 (by omega)) h02
  | fork p2 v2 ks2 hl2 hks2 h22 =>
   have ev : v = v2 := by have := h []; rwa [gt_fork_nil,gt_fork_nil] at this
   have ek : bns ks = bns ks2 := bns_ext ks ks2 (by omega) (fun j hj => ih j (by omega) _ (hks2 j (by omega)) (fun x => by
    have := h (UInt8.ofNat j :: x); rwa [gt_fork_cons,gt_fork_cons,u8_toNat j (by omega)] at this))
   unfold bn
   simp [ev,ek]
end Tr
end Go.Proofs.YtlbdaccmnpcccaaGreatDoor
namespace Go.Proofs.YtlbdaccmnpcccaaGreatDoor
namespace Tr
open Nb
def less (a b : By) : Prop := Op.bytesLess a b = true
theorem less_nil (a : By) : ¬ less a [] := by
 unfold less
 cases a <;> simp [Op.bytesLess]
theorem nil_less (c : UInt8) (r : By) : less [] (c :: r) := rfl
theorem less_cons (x y : UInt8) (a b : By) : less (x :: a) (y :: b) ↔ x < y ∨ (x = y ∧ less a b) := by
 unfold less
 simp [Op.bytesLess]
theorem less_irrefl : ∀ a : By,¬ less a a
 | [],h => less_nil [] h
 | x :: a,h => by
  rcases (less_cons x x a a).1 h with h | ⟨_,h⟩
  ·exact absurd (UInt8.lt_iff_toNat_lt.1 h) (Nat.lt_irrefl _)
  ·exact less_irrefl a h
theorem less_app (p a b : By) : less (p ++ a) (p ++ b) ↔ less a b := by
 induction p with
 | nil => exact Iff.rfl
 | cons c p ih =>
  rw [List.cons_append,List.cons_append,less_cons,ih]; constructor
  ·rintro (h | ⟨_,h⟩)
   ·exact absurd (UInt8.lt_iff_toNat_lt.1 h) (Nat.lt_irrefl _)
   ·exact h
  ·exact fun h => .inr ⟨rfl,h⟩
def leq (a b : By) : Prop := a = b ∨ less a b
theorem leq_cons {x y : UInt8} {a b : By} (h : leq (x :: a) (y :: b)) : x.toNat ≤ y.toNat ∧ (x = y → leq a b) := by
 rcases h with h | h
 ·injection h with h1 h2
  exact ⟨by rw [h1]; exact Nat.le_refl _,fun _ => .inl h2⟩
 ·rcases (less_cons x y a b).1 h with h | ⟨h1,h⟩
  ·have := UInt8.lt_iff_toNat_lt.1 h; exact ⟨by omega,fun e => by rw [e] at this; omega⟩
  ·exact ⟨by rw [h1]; exact Nat.le_refl _,fun _ => .inr h⟩
theorem cmn_mid : ∀ a b c : By,leq a b → leq b c → a.take (cmn a c) <+: b
 | [],b,_,_,_ => by simp
 | x :: a,b,[],_,_ => by simp [cmn]
 | x :: a,[],y :: c,h,_ => by
  rcases h with h | h
  ·cases h
  ·exact absurd h (less_nil _)
 | x :: a,z :: b,y :: c,h1,h2 => by
  simp only [cmn]; split
  ·rename_i e
   subst e; have k1 := leq_cons h1; have k2 := leq_cons h2; have e : x = z := UInt8.toNat_inj.1 (by omega); subst e; rw [List.take_succ_cons]; exact (List.cons_prefix_cons).2 ⟨rfl,cmn_mid a b c (k1.2 rfl) (k2.2 rfl)⟩
  ·simp
def Srt (l : Rt) : Prop := l.Pairwise fun a b => less a.1 b.1
def Pts (l : Rt) : Prop := ∀ r ∈ l,Pt r.1
def VO (l : Rt) : Prop := ∀ r ∈ l,r.2 ≠ []
def pre (p : By) (l : Rt) : Rt := l.map fun r => (p ++ r.1,r.2)
def cut (c : Nat) (l : Rt) : Rt := l.map fun r => (r.1.drop c,r.2)
def prt (i : Nat) (l : Rt) : Rt := l.filter fun r => (r.1.headD 0).toNat == i
def lk : Rt → By → By
 | [],_ => []
 | (p,v) :: r,q => if q = p then v else lk r q
theorem lk_out : ∀ (l : Rt) (q : By),(∀ r ∈ l,r.1 ≠ q) → lk l q = []
 | [],_,_ => rfl
 | (p,v) :: r,q,h => by
  rw [lk,if_neg (fun e => h (p,v) (List.mem_cons_self ..) e.symm)]
  exact lk_out r q (fun x hx => h x (List.mem_cons_of_mem _ hx))
theorem lk_mem : ∀ (l : Rt) (r : By × By),Srt l → r ∈ l → lk l r.1 = r.2
 | (p,v) :: l,r,hs,hr => by
  have hs' : (∀ x ∈ l,less p x.1) ∧ Srt l := List.pairwise_cons.1 hs; rcases List.mem_cons.1 hr with rfl | hr
  ·rw [lk,if_pos rfl]
  ·rw [lk,if_neg (fun e => less_irrefl p (by have := hs'.1 r hr; rwa [e] at this))]
   exact lk_mem l r hs'.2 hr
theorem lk_in {l : Rt} {q : By} (h : lk l q ≠ []) : ∃ r ∈ l,r.1 = q := by
 apply Classical.byContradiction
 intro hn; exact h (lk_out l q (fun r hr e => hn ⟨r,hr,e⟩))
theorem lk_pre (p : By) : ∀ (l : Rt) (q : By),lk (pre p l) (p ++ q) = lk l q
 | [],_ => rfl
 | (a,v) :: l,q => by
  show lk ((p ++ a,v) :: pre p l) (p ++ q) = lk ((a,v) :: l) q
  rw [lk,lk,lk_pre p l q]; by_cases e : q = a
  ·rw [if_pos e,if_pos (by rw [e])]
  ·rw [if_neg e,if_neg (fun h => e (List.append_cancel_left h))]
theorem pre_mem {p : By} {l : Rt} {r : By × By} (h : r ∈ pre p l) : ∃ s ∈ l,r = (p ++ s.1,s.2) := by
 obtain ⟨s,hs,e⟩ := List.mem_map.1 h; exact ⟨s,hs,e.symm⟩
theorem lk_pre_off (p : By) (l : Rt) (q : By) (h : ¬ p <+: q) : lk (pre p l) q = [] := lk_out _ _ (fun r hr e => by
 obtain ⟨s,_,rfl⟩ := pre_mem hr; exact h ⟨s.1,e⟩)
theorem srt_pre (p : By) (l : Rt) : Srt (pre p l) ↔ Srt l := by
 unfold Srt pre
 rw [List.pairwise_map]; simp only [less_app]
theorem pre_cut {p : By} {l : Rt} (h : ∀ r ∈ l,p <+: r.1) : pre p (cut p.length l) = l := by
 unfold pre cut
 rw [List.map_map]; conv => rhs; rw [← List.map_id l]
 apply List.map_congr_left
 intro r hr; obtain ⟨x,hx⟩ := h r hr; show (p ++ r.1.drop p.length,r.2) = r
 rw [← hx,List.drop_left,hx]
theorem pts_of_pre {p : By} {l : Rt} (h : Pts (pre p l)) : Pts l := fun r hr c hc => h (p ++ r.1,r.2) (List.mem_map.2 ⟨r,hr,rfl⟩) c (List.mem_append_right _ hc)
theorem vo_of_pre {p : By} {l : Rt} (h : VO (pre p l)) : VO l := fun r hr => h (p ++ r.1,r.2) (List.mem_map.2 ⟨r,hr,rfl⟩)
theorem srt_head {a : By × By} {l : Rt} (h : Srt (a :: l)) : ∀ r ∈ a :: l,leq a.1 r.1 := fun r hr => by
 rcases List.mem_cons.1 hr with rfl | hr
 ·exact .inl rfl
 ·exact .inr ((List.pairwise_cons.1 h).1 r hr)
theorem srt_last : ∀ {l : Rt} (_ : Srt l) (hn : l ≠ []),∀ r ∈ l,leq r.1 (l.getLast hn).1
 | [a],_,_,r,hr => by
  rcases List.mem_cons.1 hr with rfl | hr
  ·exact .inl rfl
  ·cases hr
 | a :: b :: l,h,_,r,hr => by
  have h2 := List.pairwise_cons.1 h; have e : (a :: b :: l).getLast (by simp) = (b :: l).getLast (by simp) := List.getLast_cons (by simp); rw [e]; rcases List.mem_cons.1 hr with rfl | hr
  ·exact .inr (h2.1 _ (List.getLast_mem _))
  ·exact srt_last (l := b :: l) h2.2 (by simp) r hr
def grow : Nat → Rt → Nd
 | 0,_ => Nd.no
 | _ + 1,[] => Nd.no
 | _ + 1,[a] => .mk 1 a.1 a.2 []
 | n + 1,a :: b :: l =>
  if 0 < cmn a.1 ((b :: l).getLast (by simp)).1 then .mk 2 (a.1.take (cmn a.1 ((b :: l).getLast (by simp)).1)) [] [grow n (cut (cmn a.1 ((b :: l).getLast (by simp)).1) (a :: b :: l))]
  else .mk 3 [] (if a.1 = [] then a.2 else []) ((List.range 16).map fun i => grow n (cut 1 (prt i (if a.1 = [] then b :: l else a :: b :: l))))
theorem lk_prt (c : UInt8) (r : By) : ∀ M : Rt,(∀ x ∈ M,x.1 ≠ []) → lk (cut 1 (prt c.toNat M)) r = lk M (c :: r)
 | [],_ => rfl
 | (p,v) :: M,h => by
  have ih := lk_prt c r M (fun x hx => h x (List.mem_cons_of_mem _ hx))
  cases p with
  | nil => exact absurd rfl (h ([],v) (List.mem_cons_self ..))
  | cons y p =>
   by_cases e : y = c
   ·subst e; have : prt y.toNat ((y :: p,v) :: M) = (y :: p,v) :: prt y.toNat M := by unfold prt; rw [List.filter_cons_of_pos (by simp)]
    rw [this]; show lk ((p,v) :: cut 1 (prt y.toNat M)) r = _
    rw [lk,lk,ih]; by_cases e2 : r = p
    ·rw [if_pos e2,if_pos (by rw [e2])]
    ·rw [if_neg e2,if_neg (fun h => e2 (by injection h))]
   ·have : prt c.toNat ((y :: p,v) :: M) = prt c.toNat M := by
     unfold prt
     rw [List.filter_cons_of_neg]; simp only [List.headD_cons,beq_iff_eq]; exact fun h => e (UInt8.toNat_inj.1 h)
    rw [this,ih,lk,if_neg (fun h => e (by injection h with h _; exact h.symm))]
theorem prt_mem {i : Nat} {M : Rt} {r : By × By} (hM : ∀ x ∈ M,x.1 ≠ []) (h : r ∈ prt i M) : r ∈ M ∧ ∃ q,r.1 = UInt8.ofNat i :: q := by
 obtain ⟨h1,h2⟩ := List.mem_filter.1 h; refine ⟨h1,?_⟩; cases hr : r.1 with
 | nil => exact absurd hr (hM r h1)
 | cons c q =>
  rw [hr] at h2; have h3 : c.toNat = i := by simpa using h2
  refine ⟨q,?_⟩; subst h3; rw [UInt8.ofNat_toNat]
theorem getD_range {α : Type} (f : Nat → α) (n j : Nat) (d : α) (h : j < n) : ((List.range n).map f).getD j d = f j := by
 rw [List.getD_eq_getElem?_getD,List.getElem?_map,List.getElem?_range h]; rfl
theorem getD_range_out {α : Type} (f : Nat → α) (n j : Nat) (d : α) (h : n ≤ j) : ((List.range n).map f).getD j d = d := by
 rw [List.getD_eq_getElem?_getD,List.getElem?_eq_none (by simpa using h)]; rfl
theorem grow_kind : ∀ (n : Nat) (l : Rt),0 < n → l ≠ [] → (grow n l).kind ≠ 0
 | n + 1,[a],_,_ => by show (1 : Int) ≠ 0; decide
 | n + 1,a :: b :: l,_,_ => by
  unfold grow
  split
  ·show (2 : Int) ≠ 0; decide
  ·show (3 : Int) ≠ 0; decide
theorem grow_fork (n : Nat) (a b : By × By) (l : Rt) (h : cmn a.1 ((b :: l).getLast (by simp)).1 = 0) : (grow (n + 1) (a :: b :: l)).kind = 3 := by
 unfold grow
 rw [if_neg (by omega)]; rfl
theorem cut_len (c : Nat) (l : Rt) : (cut c l).length = l.length := by simp [cut]
theorem grow_spec : ∀ (n : Nat) (l : Rt),(∀ r ∈ l,r.1.length < n) → Srt l → Pts l → VO l → Rs (grow n l) ∧ ∀ q,gt (grow n l) q = lk l q
 | 0,[],_,_,_,_ => ⟨.none _ _ _,fun q => by rw [grow,gt_no]; rfl⟩
 | 0,a :: l,h,_,_,_ => absurd (h a (List.mem_cons_self ..)) (by omega)
 | n + 1,[],_,_,_,_ => ⟨.none _ _ _,fun q => by rw [grow,gt_no]; rfl⟩
 | n + 1,[a],_,_,hp,hv => ⟨.leaf _ _ _ (hp a (List.mem_cons_self ..)) (hv a (List.mem_cons_self ..)),fun q => by rw [grow,gt_leaf]; rfl⟩
 | n + 1,a :: b :: l,hn,hs,hp,hv => by
  obtain ⟨z,hz⟩ : ∃ z,z = (b :: l).getLast (by simp) := ⟨_,rfl⟩; have hzl : (a :: b :: l).getLast (by simp) = z := by rw [hz]; exact List.getLast_cons (by simp)
  have hzm : z ∈ b :: l := hz ▸ List.getLast_mem _; have hlo := srt_head hs; have hhi : ∀ r ∈ a :: b :: l,leq r.1 z.1 := fun r hr => by have := srt_last hs (by simp) r hr; rwa [hzl] at this
  have haz : less a.1 z.1 := (List.pairwise_cons.1 hs).1 z hzm; have hall : ∀ r ∈ a :: b :: l,a.1.take (cmn a.1 z.1) <+: r.1 := fun r hr => cmn_mid a.1 r.1 z.1 (hlo r hr) (hhi r hr)
  have tl : (a.1.take (cmn a.1 z.1)).length = cmn a.1 z.1 := by rw [List.length_take]; have := cmn_le a.1 z.1; omega
  unfold grow
  rw [← hz]; split
  ·rename_i hc
   obtain ⟨P,hP⟩ : ∃ P,P = a.1.take (cmn a.1 z.1) := ⟨_,rfl⟩; rw [← hP] at hall tl ⊢; rw [← tl]; have epc := pre_cut hall; have hs' : Srt (cut P.length (a :: b :: l)) := (srt_pre P _).1 (by rw [epc]; exact hs)
   have hp' : Pts (cut P.length (a :: b :: l)) := pts_of_pre (p := P) (by rw [epc]; exact hp)
   have hv' : VO (cut P.length (a :: b :: l)) := vo_of_pre (p := P) (by rw [epc]; exact hv)
   have hP0 : 0 < P.length := by omega
   have hlen : P.length ≤ a.1.length := by rw [tl]; exact cmn_le _ _
   have hn1 : 0 < n := by have := hn a (List.mem_cons_self ..); omega
   have hn' : ∀ r ∈ cut P.length (a :: b :: l),r.1.length < n := fun r hr => by
    obtain ⟨s,hs,rfl⟩ := List.mem_map.1 hr; have := hn s hs; show (s.1.drop P.length).length < n
    rw [List.length_drop]; omega
   obtain ⟨k1,k2⟩ := grow_spec n (cut P.length (a :: b :: l)) hn' hs' hp' hv'; have hk : (grow n (cut P.length (a :: b :: l))).kind = 3 := by
    obtain ⟨m,rfl⟩ : ∃ m,n = m + 1 := ⟨n - 1,by omega⟩; refine grow_fork m (a.1.drop P.length,a.2) (b.1.drop P.length,b.2) (cut P.length l) ?_; have e1 : ((b.1.drop P.length,b.2) :: cut P.length l).getLast (by simp) = (z.1.drop P.length,z.2) := by
     rw [hz]; exact (List.getLast_map (f := fun r : By × By => (r.1.drop P.length,r.2)) (l := b :: l) (by simp))
    rw [e1]; obtain ⟨x,hx⟩ := hall a (List.mem_cons_self ..); obtain ⟨y,hy⟩ := hall z (List.mem_cons_of_mem _ hzm); show cmn (a.1.drop P.length) (z.1.drop P.length) = 0
    have e2 : cmn a.1 z.1 = P.length := tl.symm; rw [← hx,← hy,cmn_app] at e2; rw [← hx,← hy,List.drop_left,List.drop_left]; omega
   refine ⟨.road P [] _ (fun c hc => ?_) (fun e => by rw [e] at hP0; simp at hP0) hk k1,fun q => ?_⟩
   ·rw [hP] at hc; exact hp a (List.mem_cons_self ..) c (List.mem_of_mem_take hc)
   ·rw [gt_road]; split
    ·rename_i hpq
     obtain ⟨x,rfl⟩ := List.isPrefixOf_iff_prefix.1 hpq; rw [List.drop_left,k2,← lk_pre P,epc]
    ·rename_i hpq
     rw [← epc,lk_pre_off P _ q (fun h => hpq (List.isPrefixOf_iff_prefix.2 h))]
  ·rename_i hc
   have hc : cmn a.1 z.1 = 0 := by omega
   obtain ⟨M,hM⟩ : ∃ M,M = if a.1 = [] then b :: l else a :: b :: l := ⟨_,rfl⟩
   rw [← hM]; have hsub : ∀ r ∈ M,r ∈ a :: b :: l := fun r hr => by
    rw [hM] at hr; split at hr
    ·exact List.mem_cons_of_mem _ hr
    ·exact hr
   have hMs : Srt M := by
    rw [hM]; split
    ·exact (List.pairwise_cons.1 hs).2
    ·exact hs
   have hMn : ∀ r ∈ M,r.1 ≠ [] := fun r hr e => by
    rw [hM] at hr; split at hr
    ·have := (List.pairwise_cons.1 hs).1 r hr; rw [e] at this; exact less_nil _ this
    ·rename_i ha
     rcases hlo r hr with h | h
     ·exact ha (h.trans e)
     ·rw [e] at h; exact less_nil _ h
   have hzM : z ∈ M := by
    rw [hM]; split
    ·exact hzm
    ·exact List.mem_cons_of_mem _ hzm
   have sub : ∀ i,i < 16 → Rs (grow n (cut 1 (prt i M))) ∧ ∀ q,gt (grow n (cut 1 (prt i M))) q = lk (cut 1 (prt i M)) q := fun i hi => by
    have hpr : ∀ r ∈ prt i M,[UInt8.ofNat i] <+: r.1 := fun r hr => by
     obtain ⟨_,q,e⟩ := prt_mem hMn hr; exact ⟨q,by rw [e]; rfl⟩
    have epc : pre [UInt8.ofNat i] (cut 1 (prt i M)) = prt i M := pre_cut (p := [UInt8.ofNat i]) hpr; have hmm : ∀ r ∈ prt i M,r ∈ a :: b :: l := fun r hr => hsub r (prt_mem hMn hr).1
    exact grow_spec n _ (fun r hr => by
     obtain ⟨s,hs,rfl⟩ := List.mem_map.1 hr; have := hn s (hmm s hs); obtain ⟨_,q,e⟩ := prt_mem hMn hs; show (s.1.drop 1).length < n
     rw [List.length_drop]; rw [e,List.length_cons] at this ⊢; omega)
     ((srt_pre [UInt8.ofNat i] _).1 (by rw [epc]; exact hMs.filter _)) (pts_of_pre (p := [UInt8.ofNat i]) (by rw [epc]; exact fun r hr => hp r (hmm r hr))) (vo_of_pre (p := [UInt8.ofNat i]) (by rw [epc]; exact fun r hr => hv r (hmm r hr)))
   have live : ∀ (c : UInt8) (q : By) (v : By),(c :: q,v) ∈ M → c.toNat < 16 ∧ (grow n (cut 1 (prt c.toNat M))).kind ≠ 0 := fun c q v hm => by
    refine ⟨hp _ (hsub _ hm) c (List.mem_cons_self ..),grow_kind n _ ?_ (fun e => ?_)⟩
    ·have := hn _ (hsub _ hm); simp only [List.length_cons] at this; omega
    ·have h1 : (c :: q,v) ∈ prt c.toNat M := List.mem_filter.2 ⟨hm,by simp⟩; have h2 : (cut 1 (prt c.toNat M)).length = 0 := by rw [e]; rfl
     rw [cut_len,List.length_eq_zero_iff] at h2; rw [h2] at h1; cases h1
   refine ⟨.fork _ _ _ (by simp) (fun j hj => ?_) ?_,fun q => ?_⟩
   ·rw [getD_range _ _ _ _ hj]; exact (sub j hj).1
   ·obtain ⟨zp,zv⟩ := z; cases hzp : zp with
    | nil => subst hzp; exact absurd rfl (hMn _ hzM)
    | cons y q =>
     subst hzp; have lz := live y q zv hzM; by_cases ha : a.1 = []
     ·refine .inl ⟨by rw [if_pos ha]; exact hv a (List.mem_cons_self ..),y.toNat,lz.1,?_⟩
      rw [getD_range _ _ _ _ lz.1]; exact lz.2
     ·obtain ⟨ap,av⟩ := a; cases hap : ap with
      | nil => exact absurd hap ha
      | cons x p =>
       subst hap; have la := live x p av (by rw [hM,if_neg ha]; exact List.mem_cons_self ..)
       have hxy : x.toNat < y.toNat := by
        rcases (less_cons x y p q).1 haz with h | ⟨h,_⟩
        ·exact UInt8.lt_iff_toNat_lt.1 h
        ·subst h; simp [cmn] at hc
       refine .inr ⟨x.toNat,y.toNat,hxy,lz.1,?_,?_⟩
       ·rw [getD_range _ _ _ _ la.1]; exact la.2
       ·rw [getD_range _ _ _ _ lz.1]; exact lz.2
   ·cases q with
    | nil =>
     rw [gt_fork_nil]; by_cases ha : a.1 = []
     ·rw [if_pos ha]; have := lk_mem (a :: b :: l) a hs (List.mem_cons_self ..); rw [ha] at this; exact this.symm
     ·rw [if_neg ha]; refine (lk_out _ _ (fun r hr e => ?_)).symm
      exact hMn r (by rw [hM,if_neg ha]; exact hr) e
    | cons c r =>
     rw [gt_fork_cons]; have eM : lk M (c :: r) = lk (a :: b :: l) (c :: r) := by
      rw [hM]; split
      ·rename_i ha
       obtain ⟨ap,av⟩ := a; have ha : ap = [] := ha; subst ha; show lk (b :: l) (c :: r) = if c :: r = [] then av else lk (b :: l) (c :: r)
       rw [if_neg (by simp)]
      ·rfl
     rcases Nat.lt_or_ge c.toNat 16 with h | h
     ·rw [getD_range _ _ _ _ h,(sub c.toNat h).2,lk_prt c r M hMn,eM]
     ·rw [getD_range_out _ _ _ _ h,gt_no]; refine (lk_out _ _ (fun x hx e => ?_)).symm
      have := hp x hx c (by rw [e]; exact List.mem_cons_self ..)
      omega
end Tr
end Go.Proofs.YtlbdaccmnpcccaaGreatDoor
namespace Go.Proofs.YtlbdaccmnpcccaaGreatDoor
namespace Tr
open Nb
def ptb (p : By) : Bool := p.all fun c => decide (c.toNat < 16)
theorem ptb_iff (p : By) : ptb p = true ↔ Pt p := by
 unfold ptb Pt
 rw [List.all_eq_true]; simp only [decide_eq_true_eq]
mutual
def rt : Nd → Option Rt
 | .mk k p v ks =>
  if (k = 1 ∨ k = 2) ∧ ptb p = false then none
  else if k = 0 then some []
  else if k = 1 then some [(p,v)]
  else if k = 2 ∧ ks.length = 1 then (rt0 ks).map (pre p)
  else if k = 3 ∧ ks.length = 16 then (rtk 0 ks).map fun l => (if v = [] then [] else [([],v)]) ++ l
  else none
def rt0 : List Nd → Option Rt
 | [] => none
 | t :: _ => rt t
def rtk : Nat → List Nd → Option Rt
 | _,[] => some []
 | i,t :: r => match rt t,rtk (i + 1) r with
  | some a,some b => some (pre [UInt8.ofNat i] a ++ b)
  | _,_ => none
end
inductive Wf : Nd → Prop where
 | mk (k : Int) (p v : By) (ks : List Nd) (h : ∀ j,j < ks.length → Wf (ks.getD j Nd.no)) : Wf (.mk k p v ks)
mutual
theorem wf_any : ∀ t : Nd,Wf t
 | .mk k p v ks => .mk k p v ks (wf_all ks)
theorem wf_all : ∀ (ks : List Nd) (j : Nat),j < ks.length → Wf (ks.getD j Nd.no)
 | [],j,h => absurd h (by simp)
 | k :: _,0,_ => wf_any k
 | _ :: r,j + 1,h => wf_all r j (by simpa using h)
end
def Sp (l : Rt) (t : Nd) : Prop := Srt l ∧ Pts l ∧ ∀ q,lk l q = gt t q
theorem pts_pre {p : By} {l : Rt} (hp : Pt p) (h : Pts l) : Pts (pre p l) := fun r hr c hc => by
 obtain ⟨s,hs,rfl⟩ := pre_mem hr; rcases List.mem_append.1 hc with h1 | h1
 ·exact hp c h1
 ·exact h s hs c h1
theorem lk_app_out : ∀ (a b : Rt) (q : By),(∀ r ∈ a,r.1 ≠ q) → lk (a ++ b) q = lk b q
 | [],_,_,_ => rfl
 | (p,v) :: a,b,q,h => by
  show (if q = p then v else lk (a ++ b) q) = _
  rw [if_neg (fun e => h (p,v) (List.mem_cons_self ..) e.symm)]
  exact lk_app_out a b q (fun r hr => h r (List.mem_cons_of_mem _ hr))
theorem lk_app_in : ∀ (a b : Rt) (q : By),(∀ r ∈ b,r.1 ≠ q) → lk (a ++ b) q = lk a q
 | [],b,q,h => lk_out b q h
 | (p,v) :: a,b,q,h => by
  show (if q = p then v else lk (a ++ b) q) = (if q = p then v else lk a q)
  rw [lk_app_in a b q h]
theorem rtk_spec : ∀ (ks : List Nd) (i : Nat) (l : Rt),i + ks.length ≤ 16 → (∀ j,j < ks.length → ∀ m,rt (ks.getD j Nd.no) = some m → Sp m (ks.getD j Nd.no)) → rtk i ks = some l →
  Srt l ∧ Pts l ∧ (∀ r ∈ l,∃ j q,i ≤ j ∧ j < i + ks.length ∧ r.1 = UInt8.ofNat j :: q) ∧ ∀ (j : Nat) (q : By),i ≤ j → j < i + ks.length → lk l (UInt8.ofNat j :: q) = gt (ks.getD (j - i) Nd.no) q
 | [],i,l,_,_,h => by
  unfold rtk at h
  cases h
  exact ⟨List.Pairwise.nil,(fun r hr => by cases hr),(fun r hr => by cases hr),fun j q h1 h2 => by rw [List.length_nil] at h2; omega⟩
 | t :: r,i,l,hi,hk,h => by
  unfold rtk at h
  cases ha : rt t with
  | none => rw [ha] at h; cases h
  | some a =>
   cases hb : rtk (i + 1) r with
   | none => rw [ha,hb] at h; cases h
   | some b =>
    rw [ha,hb] at h; cases h
    simp only [List.length_cons] at hi; obtain ⟨a1,a2,a3⟩ := hk 0 (by simp) a ha; rw [List.getD_cons_zero] at a3; obtain ⟨b1,b2,b3,b4⟩ := rtk_spec r (i + 1) b (by omega) (fun j hj m hm => by
     have := hk (j + 1) (by simpa using hj) m; rw [List.getD_cons_succ] at this; exact this hm) hb
    have hib : ∀ x ∈ b,∃ j q,i < j ∧ j < 16 ∧ x.1 = UInt8.ofNat j :: q := fun x hx => by
     obtain ⟨j,q,h1,h2,h3⟩ := b3 x hx; exact ⟨j,q,by omega,by omega,h3⟩
    refine ⟨?_,?_,?_,?_⟩
    ·refine List.pairwise_append.2 ⟨(srt_pre _ _).2 a1,b1,fun x hx y hy => ?_⟩
     obtain ⟨s,_,rfl⟩ := pre_mem hx; obtain ⟨j,q,h1,h2,h3⟩ := hib y hy; rw [h3]; refine (less_cons _ _ _ _).2 (.inl (UInt8.lt_iff_toNat_lt.2 ?_)); rw [u8_toNat i (by omega),u8_toNat j h2]; exact h1
    ·intro x hx; rcases List.mem_append.1 hx with h | h
     ·exact pts_pre (fun c hc => by
       rcases List.mem_cons.1 hc with rfl | hc
       ·rw [u8_toNat i (by omega)]; omega
       ·cases hc) a2 x h
     ·exact b2 x h
    ·intro x hx; rcases List.mem_append.1 hx with h | h
     ·obtain ⟨s,_,rfl⟩ := pre_mem h; exact ⟨i,s.1,Nat.le_refl _,by simp only [List.length_cons]; omega,rfl⟩
     ·obtain ⟨j,q,h1,h2,h3⟩ := b3 x h; exact ⟨j,q,by omega,by simp only [List.length_cons]; omega,h3⟩
    ·intro j q h1 h2; simp only [List.length_cons] at h2; rcases Nat.lt_or_ge i j with hij | hij
     ·rw [lk_app_out _ _ _ (fun x hx e => by
       obtain ⟨s,_,rfl⟩ := pre_mem hx; injection e with e _
       have := congrArg UInt8.toNat e; rw [u8_toNat i (by omega),u8_toNat j (by omega)] at this; omega),b4 j q (by omega) (by omega)]
      obtain ⟨d,rfl⟩ : ∃ d,j = i + 1 + d := ⟨j - i - 1,by omega⟩; rw [show i + 1 + d - (i + 1) = d by omega,show i + 1 + d - i = d + 1 by omega,List.getD_cons_succ]
     ·have e : j = i := by omega
      subst e; rw [lk_app_in _ _ _ (fun x hx e => by
       obtain ⟨k,q2,h1,h2,h3⟩ := hib x hx; rw [h3] at e; injection e with e _
       have := congrArg UInt8.toNat e; rw [u8_toNat j (by omega),u8_toNat k h2] at this; omega)]
      rw [Nat.sub_self,List.getD_cons_zero,← a3 q]; exact lk_pre [UInt8.ofNat j] a q
theorem rt_wf {t : Nd} (h : Wf t) : ∀ l,rt t = some l → Sp l t := by
 induction h with
 | mk k p v ks _ ih =>
  intro l h; unfold rt at h
  split at h
  ·cases h
  rename_i hp
  split at h
  ·rename_i h0
   subst h0; cases h
   exact ⟨List.Pairwise.nil,fun r hr => (by cases hr),fun q => (gt_zero 0 p v ks q (by decide) (by decide) (by decide)).symm⟩
  split at h
  ·rename_i h1
   subst h1; cases h
   have hpt : Pt p := (ptb_iff p).1 (by cases hb : ptb p with | true => rfl | false => exact absurd ⟨.inl rfl,hb⟩ hp)
   refine ⟨List.pairwise_singleton _ _,fun r hr => ?_,fun q => ?_⟩
   ·rcases List.mem_cons.1 hr with rfl | hr
    ·exact hpt
    ·cases hr
   ·rw [gt_leaf]; rfl
  split at h
  ·rename_i h2
   obtain ⟨rfl,hl⟩ := h2; obtain ⟨t,rfl⟩ := List.length_eq_one_iff.1 hl; have hpt : Pt p := (ptb_iff p).1 (by cases hb : ptb p with | true => rfl | false => exact absurd ⟨.inr rfl,hb⟩ hp)
   rw [rt0] at h; cases ha : rt t with
   | none => rw [ha] at h; cases h
   | some a =>
    rw [ha] at h; cases h
    obtain ⟨a1,a2,a3⟩ := ih 0 (by simp) a ha; rw [List.getD_cons_zero] at a3; refine ⟨(srt_pre p a).2 a1,pts_pre hpt a2,fun q => ?_⟩
    rw [gt_road]; split
    ·rename_i hpq
     obtain ⟨x,rfl⟩ := List.isPrefixOf_iff_prefix.1 hpq; rw [List.drop_left,lk_pre,a3]
    ·rename_i hpq
     exact lk_pre_off p a q (fun h => hpq (List.isPrefixOf_iff_prefix.2 h))
  split at h
  ·rename_i h3
   obtain ⟨rfl,hl⟩ := h3; cases ha : rtk 0 ks with
   | none => rw [ha] at h; cases h
   | some a =>
    rw [ha] at h; cases h
    obtain ⟨a1,a2,a3,a4⟩ := rtk_spec ks 0 a (by omega) ih ha; have hne : ∀ r ∈ a,r.1 ≠ [] := fun r hr e => by
     obtain ⟨j,q,_,_,h3⟩ := a3 r hr; rw [h3] at e; cases e
    have hcons : ∀ (c : UInt8) (q : By),lk a (c :: q) = gt (ks.getD c.toNat Nd.no) q := fun c q => by
     rcases Nat.lt_or_ge c.toNat 16 with hc | hc
     ·have := a4 c.toNat q (by omega) (by omega); rw [UInt8.ofNat_toNat] at this; simpa using this
     ·rw [List.getD_eq_getElem?_getD,List.getElem?_eq_none (by omega),Option.getD_none,gt_no]; exact lk_out _ _ (fun r hr e => by have := a2 r hr c (by rw [e]; exact List.mem_cons_self ..); omega)
    by_cases hv : v = []
    ·rw [if_pos hv]; refine ⟨a1,a2,fun q => ?_⟩
     cases q with
     | nil => rw [gt_fork_nil,hv]; exact lk_out _ _ hne
     | cons c q => rw [gt_fork_cons]; exact hcons c q
    ·rw [if_neg hv]; refine ⟨List.pairwise_cons.2 ⟨fun r hr => ?_,a1⟩,fun r hr => ?_,fun q => ?_⟩
     ·show less [] r.1
      obtain ⟨j,q,_,_,h3⟩ := a3 r hr; rw [h3]; exact nil_less _ _
     ·rcases List.mem_cons.1 hr with rfl | hr
      ·exact pt_nil
      ·exact a2 r hr
     ·show (if q = [] then v else lk a q) = _
      cases q with
      | nil => rw [gt_fork_nil,if_pos rfl]
      | cons c q => rw [gt_fork_cons,if_neg (by simp)]; exact hcons c q
  ·cases h
theorem rt_spec {t : Nd} {l : Rt} (h : rt t = some l) : Sp l t := rt_wf (wf_any t) l h
theorem rtk_some : ∀ (ks : List Nd) (i : Nat),(∀ j,j < ks.length → ∃ m,rt (ks.getD j Nd.no) = some m ∧ VO m) → ∃ l,rtk i ks = some l ∧ VO l
 | [],_,_ => ⟨[],by unfold rtk; rfl,fun r hr => by cases hr⟩
 | t :: r,i,h => by
  obtain ⟨a,ha,va⟩ := h 0 (by simp); rw [List.getD_cons_zero] at ha; obtain ⟨b,hb,vb⟩ := rtk_some r (i + 1) (fun j hj => by
   have := h (j + 1) (by simpa using hj); rwa [List.getD_cons_succ] at this)
  refine ⟨pre [UInt8.ofNat i] a ++ b,by unfold rtk; rw [ha,hb],fun x hx => ?_⟩
  rcases List.mem_append.1 hx with hx | hx
  ·obtain ⟨s,hs,rfl⟩ := pre_mem hx; exact va s hs
  ·exact vb x hx
theorem rt_some {t : Nd} (h : Rs t) : ∃ l,rt t = some l ∧ VO l := by
 induction h with
 | none p v ks => exact ⟨[],by unfold rt; simp,fun r hr => by cases hr⟩
 | leaf p v ks hp hv =>
  refine ⟨[(p,v)],?_,fun r hr => ?_⟩
  ·unfold rt
   rw [if_neg (fun h => by rw [(ptb_iff p).2 hp] at h; cases h.2)]
   simp
  ·rcases List.mem_cons.1 hr with rfl | hr
   ·exact hv
   ·cases hr
 | road p v t hp h0 hk h ih =>
  obtain ⟨l,hl,hv⟩ := ih; refine ⟨pre p l,?_,fun r hr => ?_⟩
  ·unfold rt
   rw [if_neg (fun h => by rw [(ptb_iff p).2 hp] at h; cases h.2),if_neg (by decide),if_neg (by decide),if_pos ⟨rfl,rfl⟩,rt0,hl]
   rfl
  ·obtain ⟨s,hs,rfl⟩ := pre_mem hr; exact hv s hs
 | fork p v ks hl h h2 ih =>
  obtain ⟨l,h1,hv⟩ := rtk_some ks 0 (fun j hj => ih j (by omega))
  refine ⟨(if v = [] then [] else [([],v)]) ++ l,?_,fun r hr => ?_⟩
  ·unfold rt
   rw [if_neg (fun h => by rcases h.1 with h | h <;> exact absurd h (by decide)),if_neg (by decide),if_neg (by decide),if_neg (fun h => absurd h.1 (by decide)),if_pos ⟨rfl,hl⟩,h1]
   rfl
  ·rcases List.mem_append.1 hr with hr | hr
   ·split at hr
    ·cases hr
    ·rename_i hne
     rcases List.mem_cons.1 hr with rfl | hr
     ·exact hne
     ·cases hr
   ·exact hv r hr
theorem bn_kind : ∀ t : Nd,(bn t).kind = t.kind
 | .mk k p v ks => by
  unfold bn
  split
  ·rename_i h; rw [h]; rfl
  split
  ·rename_i h; rw [h]; rfl
  split
  ·rename_i h; rw [h]; rfl
  ·rfl
theorem rs_bn {b : Nd} (hb : Rs b) : ∀ a : Nd,bn a = bn b → Rs a := by
 induction hb with
 | none p v ks =>
  intro a h; have hk : a.kind = 0 := by rw [← bn_kind a,h,bn_kind]; rfl
  obtain ⟨k,p2,v2,ks2⟩ := a; have hk : k = 0 := hk; subst hk; exact .none _ _ _
 | leaf p v ks hp hv =>
  intro a h; have hk : a.kind = 1 := by rw [← bn_kind a,h,bn_kind]; rfl
  obtain ⟨k,p2,v2,ks2⟩ := a; have hk : k = 1 := hk; subst hk; unfold bn at h
  simp at h
  exact .leaf _ _ _ (h.1 ▸ hp) (h.2 ▸ hv)
 | road p v t hp h0 hk h ih =>
  intro a ha; have hka : a.kind = 2 := by rw [← bn_kind a,ha,bn_kind]; rfl
  obtain ⟨k,p2,v2,ks2⟩ := a; have hka : k = 2 := hka; subst hka; unfold bn at ha
  simp [bns] at ha
  obtain ⟨rfl,ha⟩ := ha; match ks2,ha with
  | [],ha => unfold bns at ha; cases ha
  | [t2],ha =>
   simp [bns] at ha
   exact .road _ _ t2 hp h0 (by rw [← bn_kind t2,ha,bn_kind]; exact hk) (ih t2 ha)
  | _ :: _ :: _,ha => simp [bns] at ha
 | fork p v ks hl h h2 ih =>
  intro a ha; have hka : a.kind = 3 := by rw [← bn_kind a,ha,bn_kind]; rfl
  obtain ⟨k,p2,v2,ks2⟩ := a; have hka : k = 3 := hka; subst hka; unfold bn at ha
  simp at ha
  obtain ⟨rfl,ha⟩ := ha; have hl2 : ks2.length = 16 := by rw [← bns_len,ha,bns_len,hl]
  have hj : ∀ j,bn (ks2.getD j Nd.no) = bn (ks.getD j Nd.no) := fun j => by rw [← bns_getD,ha,bns_getD]
  have hkj : ∀ j,(ks2.getD j Nd.no).kind = (ks.getD j Nd.no).kind := fun j => by rw [← bn_kind,hj,bn_kind]
  refine .fork _ _ _ hl2 (fun j hj2 => ih j hj2 _ (hj j)) ?_
  rcases h2 with ⟨hv,j,h3,h4⟩ | ⟨i,j,h3,h4,h5,h6⟩
  ·exact .inl ⟨hv,j,h3,by rw [hkj]; exact h4⟩
  ·exact .inr ⟨i,j,h3,h4,by rw [hkj]; exact h5,by rw [hkj]; exact h6⟩
def Okr (q v : By) : Prop := q.length % 2 = 0 ∧ q.length ≤ 64 ∧ v ≠ [] ∧ v.length ≤ 1024
def Right (t : Nd) : Prop := Rs t ∧ ∀ q,gt t q ≠ [] → Okr q (gt t q)
theorem right_iff (t : Nd) : Right t ↔ ∃ l,rt t = some l ∧ (∀ r ∈ l,Okr r.1 r.2) ∧ bn t = bn (grow 65 l) := by
 constructor
 ·rintro ⟨hs,ho⟩; obtain ⟨l,hl,hv⟩ := rt_some hs; obtain ⟨h1,h2,h3⟩ := rt_spec hl; have hok : ∀ r ∈ l,Okr r.1 r.2 := fun r hr => by
   have e : gt t r.1 = r.2 := by rw [← h3,lk_mem l r h1 hr]
   have := ho r.1 (by rw [e]; exact hv r hr)
   rwa [e] at this
  obtain ⟨g1,g2⟩ := grow_spec 65 l (fun r hr => by have := (hok r hr).2.1; omega) h1 h2 hv
  exact ⟨l,hl,hok,uniq hs _ g1 (fun q => by rw [g2,h3])⟩
 ·rintro ⟨l,hl,hok,hb⟩; obtain ⟨h1,h2,h3⟩ := rt_spec hl; obtain ⟨g1,g2⟩ := grow_spec 65 l (fun r hr => by have := (hok r hr).2.1; omega) h1 h2 (fun r hr => (hok r hr).2.2.1)
  refine ⟨rs_bn g1 t hb,fun q hq => ?_⟩
  rw [← h3] at hq ⊢; obtain ⟨r,hr,rfl⟩ := lk_in hq; rw [lk_mem l r h1 hr]; exact hok r hr
end Tr
end Go.Proofs.YtlbdaccmnpcccaaGreatDoor
namespace Go.Proofs.YtlbdaccmnpcccaaGreatDoor
namespace Rt
open Nb Tr
abbrev Nd := Tr.Nd
def sml (c : By) : By := (List.range 32).map fun i => UInt8.ofNat (Sp.sumf c i).toNat
theorem sml_len (c : By) : (sml c).length = 32 := by simp [sml]
mutual
def cd : Nd → By
 | .mk k p v ks => Rs.hc (if k = 1 then (1,p,v,[]) else if k = 2 ∨ k = 3 then (k,p,v,sms ks) else Rs.zS)
def sms : List Nd → List By
 | [] => []
 | t :: r => (if t.kind = 0 then [] else sml (cd t)) :: sms r
end
mutual
def cds : Nd → List By
 | .mk k p v ks => cd (.mk k p v ks) :: (if k = 2 ∨ k = 3 then cdk ks else [])
def cdk : List Nd → List By
 | [] => []
 | t :: r => (if t.kind = 0 then [] else cds t) ++ cdk r
end
def shN : Nd → Rs.Shp
 | .mk k p v ks => if k = 1 then (1,p,v,[]) else if k = 2 ∨ k = 3 then (k,p,v,sms ks) else Rs.zS
theorem cd_eq (t : Nd) : cd t = Rs.hc (shN t) := by
 obtain ⟨k,p,v,ks⟩ := t; rw [cd,shN]
theorem sms_len : ∀ ks : List Nd,(sms ks).length = ks.length
 | [] => by simp [sms]
 | t :: r => by rw [sms,List.length_cons,List.length_cons,sms_len r]
theorem sms_getD : ∀ (ks : List Nd) (j : Nat),j < ks.length → (sms ks).getD j [] = if (ks.getD j Nd.no).kind = 0 then [] else sml (cd (ks.getD j Nd.no))
 | [],j,h => absurd h (by simp)
 | t :: r,0,_ => by rw [sms]; rfl
 | t :: r,j + 1,h => by
  rw [sms]; have := sms_getD r j (by simpa using h); simpa using this
theorem sms_snoc (ks : List Nd) (k : Nat) (h : k < ks.length) : sms (ks.take (k + 1)) = sms (ks.take k) ++ [if (ks.getD k Nd.no).kind = 0 then [] else sml (cd (ks.getD k Nd.no))] := by
 induction ks generalizing k with
 | nil => simp at h
 | cons t r ih =>
  cases k with
  | zero => simp [sms]
  | succ k =>
   rw [List.take_succ_cons,sms,ih k (by simpa using h),List.take_succ_cons,sms]; simp
theorem cdk_snoc (ks : List Nd) (k : Nat) (h : k < ks.length) : cdk (ks.take (k + 1)) = cdk (ks.take k) ++ (if (ks.getD k Nd.no).kind = 0 then [] else cds (ks.getD k Nd.no)) := by
 induction ks generalizing k with
 | nil => simp at h
 | cons t r ih =>
  cases k with
  | zero => simp [cdk]
  | succ k =>
   rw [List.take_succ_cons,cdk,ih k (by simpa using h),List.take_succ_cons,cdk]; simp
def Hr (t : Nd) : Prop := Tr.Rs t ∧ ∀ q,(gt t q).length ≤ 1024
theorem hr_kid {p v : By} {ks : List Nd} (h : Hr (.mk 3 p v ks)) (j : Nat) (hj : j < 16) : Hr (ks.getD j Nd.no) := by
 cases h.1 with
 | fork _ _ _ hl hk _ =>
  refine ⟨hk j hj,fun q => ?_⟩
  have := h.2 (UInt8.ofNat j :: q); rw [gt,if_neg (by decide),if_neg (by decide),if_pos rfl,if_neg (by simp)] at this; rw [gtk_getD] at this; have e : ((UInt8.ofNat j :: q).headD 0).toNat = j := by
   show (UInt8.ofNat j).toNat = j
   rw [UInt8.toNat_ofNat']; omega
  rw [e] at this; exact this
theorem hr_road {p v : By} {t : Nd} (h : Hr (.mk 2 p v [t])) : Hr t := by
 cases h.1 with
 | road _ _ _ _ _ _ ht =>
  refine ⟨ht,fun q => ?_⟩
  have := h.2 (p ++ q); rw [gt_road,if_pos (by simp)] at this; simpa using this
theorem np_two (l : List (List UInt8)) (i j : Nat) (hij : i < j) (hj : j < l.length) (h1 : 0 < (l.getD i []).length) (h2 : 0 < (l.getD j []).length) : 2 ≤ Rs.np l := by
 unfold Rs.np
 rw [← List.take_append_drop j l,List.countP_append]; have a1 : 0 < (l.take j).countP fun x => decide (0 < x.length) := by
  rw [List.countP_pos_iff]; refine ⟨l.getD i [],?_,decide_eq_true h1⟩; rw [List.getD_eq_getElem?_getD,List.getElem?_eq_getElem (by omega)]; exact List.mem_take_iff_getElem.2 ⟨i,by omega,rfl⟩
 have a2 : 0 < (l.drop j).countP fun x => decide (0 < x.length) := by
  rw [List.countP_pos_iff]; refine ⟨l.getD j [],?_,decide_eq_true h2⟩; rw [List.getD_eq_getElem?_getD,List.getElem?_eq_getElem hj]; rw [List.drop_eq_getElem_cons hj]; exact List.mem_cons_self ..
 omega
theorem hr_shape {t : Nd} (h : Hr t) : Rs.isS (shN t) = true := by
 obtain ⟨hs,hv⟩ := h; cases hs with
 | none p v ks => rfl
 | leaf p v ks hp h0 =>
  have h1 := hv p; rw [gt_leaf,if_pos rfl] at h1; show (pb p && (decide (0 < v.length) && decide (v.length ≤ 1024))) = true
  have h2 : 0 < v.length := List.length_pos_iff.2 h0; rw [(pb_iff p).2 hp,decide_eq_true h1,decide_eq_true h2]; rfl
 | road p v t hp h0 hk ht =>
  have e : shN (.mk 2 p v [t]) = (2,p,v,[sml (cd t)]) := by
   rw [shN,if_neg (by decide),if_pos (.inl rfl),sms,sms,if_neg (by rw [hk]; decide)]
  rw [e]; show (decide (0 < p.length) && (pb p && (decide (([sml (cd t)] : List By).length = 1) && decide ((([sml (cd t)] : List By).getD 0 []).length = 32)))) = true
  have h2 : 0 < p.length := List.length_pos_iff.2 h0; have h3 : (([sml (cd t)] : List By).getD 0 []).length = 32 := sml_len _; rw [(pb_iff p).2 hp,decide_eq_true h2,decide_eq_true h3]; rfl
 | fork p v ks hl hk h2 =>
  have e : shN (.mk 3 p v ks) = (3,p,v,sms ks) := by rw [shN,if_neg (by decide),if_pos (.inr rfl)]
  rw [e]; show (decide ((sms ks).length = 16) && (decide (v.length ≤ 1024) && ((sms ks).all Rs.sm && decide (2 ≤ Rs.np (sms ks ++ [v]))))) = true
  have h1 := hv []; rw [gt,if_neg (by decide),if_neg (by decide),if_pos rfl,if_pos rfl] at h1; have ha : (sms ks).all Rs.sm = true := by
   rw [List.all_eq_true]; intro x hx; obtain ⟨j,hj,rfl⟩ := List.getElem_of_mem hx; have := sms_getD ks j (by rw [sms_len] at hj; exact hj)
   rw [List.getD_eq_getElem?_getD,List.getElem?_eq_getElem hj] at this; have e : (sms ks)[j] = if (ks.getD j Nd.no).kind = 0 then [] else sml (cd (ks.getD j Nd.no)) := this
   rw [e]; split
   ·rfl
   ·unfold Rs.sm; rw [sml_len]; rfl
  have hlen : (sms ks ++ [v]).length = 17 := by rw [List.length_append,sms_len,hl]; rfl
  have gk : ∀ j,j < 16 → (ks.getD j Nd.no).kind ≠ 0 → 0 < ((sms ks ++ [v]).getD j []).length := fun j hj hne => by
   have : (sms ks ++ [v]).getD j [] = (sms ks).getD j [] := by
    rw [List.getD_eq_getElem?_getD,List.getElem?_append_left (by rw [sms_len]; omega),← List.getD_eq_getElem?_getD]
   rw [this,sms_getD ks j (by omega),if_neg hne,sml_len]; decide
  have hn : 2 ≤ Rs.np (sms ks ++ [v]) := by
   rcases h2 with ⟨h0,j,hj,hne⟩ | ⟨i,j,hij,hj,hi,hne⟩
   ·refine np_two _ j 16 hj (by omega) (gk j hj hne) ?_; have : (sms ks ++ [v]).getD 16 [] = v := by
     rw [List.getD_eq_getElem?_getD,List.getElem?_append_right (by rw [sms_len]; omega),sms_len,hl]
     rfl
    rw [this]; exact List.length_pos_iff.2 h0
   ·exact np_two _ i j hij (by omega) (gk i (by omega) hi) (gk j hj hne)
  rw [ha,decide_eq_true (by rw [sms_len]; exact hl),decide_eq_true h1,decide_eq_true hn]
  rfl
end Rt
end Go.Proofs.YtlbdaccmnpcccaaGreatDoor
namespace Go.Proofs.YtlbdaccmnpcccaaGreatDoor
namespace Tr
open Nb Go.RowKit
def st (l : By) : ByteArray := ⟨l.toArray⟩
theorem st_size (l : By) : (st l).size = l.length := by simp [st,ByteArray.size]
theorem st_cat (l m : By) : st l ++ st m = st (l ++ m) := by
 unfold st
 apply ByteArray.ext
 simp
theorem st_list (l : By) : (st l).toList = l := by
 unfold st
 simp [ByteArray.toList_eq]
theorem Sl_st {b : By} {v : Value} {w : World} (h : Pk.Sl b v w) : (convert 22 9 v).run Tryz.prog w = .ok (.string (st b)) w := Pk.Sl_conv h
theorem cat_st (l m : By) (h : l.length + m.length ≤ 9223372036854775807) (w : World) : (Op.stringOp .add (st l) (st m)).run Tryz.prog w = .ok (.string (st (l ++ m))) w := by
 rw [run_string_add_sum w _ _ (by rw [st_size,st_size]; exact h),st_cat]
theorem st_sl (l : By) (w : World) : ∃ c W,(convert 9 22 (.string (st l))).run Tryz.prog w = .ok (.slice (some ⟨w.heap.size,0,none⟩) l.length c) W ∧ Pk.Sl l (.slice (some ⟨w.heap.size,0,none⟩) l.length c) W ∧ W.heap.size = w.heap.size + 1 ∧ Below w.heap.size w W := by
 have h := Lib.run_convert_string_bytes w 9 22 5 (st l) Tryz.underlying9 Tryz.underlying22 Tryz.underlying5; rw [st_size] at h; refine ⟨_,_,h,⟨_,_,rfl,grownCap_ge _ _ _ _,fun h0 => ⟨_,_,rfl,?_,fun j hj => ?_⟩⟩,Lib.bytesWorld_size _ _ _,⟨?_,?_,?_,?_,fun k hk => Lib.bytesWorld_at_old w _ _ k hk⟩⟩
 ·rw [Lib.bytesWorld_size]; omega
 ·rw [Nat.zero_add,Lib.bytesWorld_cell w _ _ j (by rw [st_size]; exact hj)]
  rfl
 ·rfl
 ·rfl
 ·rfl
 ·rw [Lib.bytesWorld_size]; omega
def c2 (l : Rt) : List Value := l.flatMap fun r => [.string (st r.1),.string (st r.2)]
def n2 : By × By := ([],[])
theorem c2_len (l : Rt) : (c2 l).length = l.length * 2 := by
 induction l with
 | nil => rfl
 | cons p r ih => simp only [c2,List.flatMap_cons,List.length_append,List.length_cons,List.length_nil] at ih ⊢; omega
theorem c2_app (x y : Rt) : c2 (x ++ y) = c2 x ++ c2 y := by simp [c2]
theorem c2_get : ∀ (l : Rt) (j : Nat),j < l.length → (c2 l)[2 * j]? = some (.string (st (l.getD j n2).1)) ∧ (c2 l)[2 * j + 1]? = some (.string (st (l.getD j n2).2))
 | [],j,h => absurd h (by simp)
 | p :: r,0,_ => ⟨rfl,rfl⟩
 | p :: r,j + 1,h => by
  have ih := c2_get r j (by simpa using h); have e1 : 2 * (j + 1) = 2 * j + 1 + 1 := by omega
  have e2 : 2 * (j + 1) + 1 = 2 * j + 1 + 1 + 1 := by omega
  have ec : c2 (p :: r) = .string (st p.1) :: .string (st p.2) :: c2 r := rfl; rw [ec,e2,e1]; simpa only [List.getElem?_cons_succ,List.getD_cons_succ] using ih
theorem c2_one (l : Rt) : ∀ u ∈ c2 l,u.oneCell' = true := fun u hu => by
 obtain ⟨r,_,h⟩ := List.mem_flatMap.1 hu; rcases List.mem_cons.1 h with rfl | h
 ·rfl
 rcases List.mem_cons.1 h with rfl | h
 ·rfl
 ·cases h
def Rv (l : Rt) (v : Value) (w : World) : Prop := ∃ (ao : Option Addr) (cap : Nat),v = .slice ao l.length cap ∧ l.length ≤ cap ∧ (0 < l.length → ∃ h off,ao = some ⟨h,off,none⟩ ∧ h < w.heap.size ∧ ∀ j,j < l.length → w.cell? ⟨h,off + 2 * j,none⟩ = some (.string (st (l.getD j n2).1)) ∧ w.cell? ⟨h,off + 2 * j + 1,none⟩ = some (.string (st (l.getD j n2).2)))
theorem Rv_below {l : Rt} {v : Value} {w w' : World} (h : Rv l v w) (hb : Below w.heap.size w w') : Rv l v w' := by
 obtain ⟨ao,cap,h1,h2,h4⟩ := h; refine ⟨ao,cap,h1,h2,fun h0 => ?_⟩
 obtain ⟨k,off,e,hlt,hc⟩ := h4 h0; exact ⟨k,off,e,Nat.lt_of_lt_of_le hlt hb.size,fun j hj => ⟨(hb.cell (p := ⟨k,off + 2 * j,none⟩) hlt).trans (hc j hj).1,(hb.cell (p := ⟨k,off + 2 * j + 1,none⟩) hlt).trans (hc j hj).2⟩⟩
theorem Rv_nil (w : World) : Rv [] (.slice none 0 0) w := ⟨none,0,rfl,Nat.le_refl _,fun h => absurd h (by simp)⟩
theorem infoRt : (Tryz.prog.info? 90).map (fun i => (i.zero,i.size,i.bytes)) = some (some (.agg #[.string ⟨#[]⟩,.string ⟨#[]⟩]),2,32) := by kernel_rfl
abbrev Ow (lo : Nat) (l : Rt) (v : Value) (w : World) : Prop := w.ownsRow lo 90 2 v l.length (c2 l)
theorem own_rv {lo : Nat} {l : Rt} {v : Value} {w : World} (h : Ow lo l v w) : Rv l v w := by
 rcases h.2 with ⟨h3,h4⟩ | ⟨g,cap,cur,h3,h5⟩
 ·have e : l = [] := List.length_eq_zero_iff.1 h4; subst e; subst h3; exact Rv_nil w
 ·subst h3; refine ⟨some ⟨g,0,none⟩,cap,rfl,h5.2.2.1,fun _ => ⟨g,0,rfl,Pk.lt_of_heap h5.2.1,fun j hj => ?_⟩⟩
  have hc := c2_get l j hj; refine ⟨?_,?_⟩
  ·rw [Nat.zero_add,h.cellAt _ (by omega)]; exact hc.1
  ·rw [Nat.zero_add,h.cellAt _ (by omega)]; exact hc.2
theorem own_slice {lo : Nat} {l : Rt} {v : Value} {w : World} (h : Ow lo l v w) : ∃ a n c,v = .slice a n c := by
 rcases h.2 with ⟨h3,_⟩ | ⟨g,cap,cur,h3,_⟩
 ·exact ⟨_,_,_,h3⟩
 ·exact ⟨_,_,_,h3⟩
theorem app_rv {lo : Nat} {x b : Rt} {v vb : Value} {w : World} (ty : TypeId) (h : Ow lo x v w) (hb : Rv b vb w) (hlo : lo ≤ w.heap.size) (hlen : x.length + b.length ≤ 4194304) :
  ∃ v' w',(Builtin.append_ #[86,86] ty #[v,vb]).run Tryz.prog w = .ok v' w' ∧ Ow lo (x ++ b) v' w' ∧ Below lo w w' ∧ w.grownBy w' v.ownBlock := by
 obtain ⟨i0,hi,hz0,hz1,hz2⟩ := info_parts infoRt; obtain ⟨ao,cap,rfl,hcap,vw⟩ := hb; by_cases h0 : 0 < b.length
 ·obtain ⟨g,off,rfl,hg,hc⟩ := vw h0; obtain ⟨v',w',hr,ho,hgr,_⟩ := run_append_own (P := Tryz.prog) w lo 86 ty 90 i0 _ 2 32 Tryz.underlying86 hi hz0 hz1 hz2 rfl (by decide) v x.length (c2 x) h ⟨g,off,none⟩ b.length cap (c2 b) (c2_len b)
   (fun j u hj => by
    have hj' : j < b.length * 2 := by
     have := (List.getElem?_eq_some_iff.1 hj).1; rwa [c2_len] at this
    have ea : (⟨g,off,none⟩ : Addr).add j = ⟨g,off + j,none⟩ := by unfold Addr.add; split <;> simp_all
    rw [ea,← hj]; obtain ⟨k,hk⟩ : ∃ k,j = 2 * k ∨ j = 2 * k + 1 := ⟨j / 2,by omega⟩; rcases hk with rfl | rfl
    ·rw [(hc k (by omega)).1,(c2_get b k (by omega)).1]
    ·rw [← Nat.add_assoc,(hc k (by omega)).2,(c2_get b k (by omega)).2]) (c2_one b) (by unfold maxLen; omega) (by omega) hlo
  refine ⟨v',w',hr,?_,?_,hgr⟩
  ·show w'.ownsRow _ _ _ _ _ _
   rw [List.length_append,c2_app]; exact ho
  ·refine (Below.refl _ _).grown hgr hlo (fun k hk => ?_)
   rcases h.2 with ⟨h3,_⟩ | ⟨g',cap',cur,h3,h5⟩
   ·subst h3; cases hk
   ·subst h3; cases hk
    exact h5.1
 ·have e : b = [] := List.length_eq_zero_iff.1 (by omega); subst e; rw [List.append_nil]; have hg : w.grownBy w v.ownBlock := ⟨rfl,rfl,rfl,Nat.le_refl _,fun _ _ _ => rfl⟩
  refine ⟨v,w,?_,h,Below.refl _ _,hg⟩; have hs : Src Tryz.prog i0.size 86 (.slice ao 0 cap) 0 [] w := by
   cases ao with
   | none => exact Src.ofNil w Tryz.underlying86 cap
   | some ad => exact Src.ofSlice w Tryz.underlying86 ad 0 cap [] (by simp) (fun j u hj => by simp at hj) (fun u hu => by cases hu)
  rcases h.2 with ⟨h3,h4⟩ | ⟨g',cap',cur,h3,h5⟩
  ·subst h3; exact run_append_nothing w 86 86 ty 90 i0 Tryz.underlying86 hi none 0 0 (Nat.le_refl _) _ hs
  ·subst h3; exact run_append_nothing w 86 86 ty 90 i0 Tryz.underlying86 hi _ _ _ h5.2.2.1 _ hs
end Tr
end Go.Proofs.YtlbdaccmnpcccaaGreatDoor
namespace Go.Proofs.YtlbdaccmnpcccaaGreatDoor
namespace Tr
open Nb Go.RowKit
theorem msr_up (k n : Nat) (h : k < n) : ((n : Int) - intOf (.int .i64 ((k + 1 : Nat) : Int))).toNat < ((n : Int) - intOf (.int .i64 (k : Int))).toNat := by
 simp only [intOf]; omega
theorem wp_apw {P : Program} {o : Oper} {a : Act} {K : Act → World → Prop} {Q : Exit → Act → World → Prop} {s x : Operand} {t u : TypeId} {v v2 v' : Value} {w w' : World} (ho : o.op = .call { callee := .builtin .append,args := #[s,x],argTypes := #[t,u] }) (hs : a.eval s = v) (hx : a.eval x = v2)
  (hr : (Builtin.append_ #[t,u] o.type #[v,v2]).run P w = .ok v' w') (h : K (a.put o.dst v') w') : o.wp P a w K Q := by
 unfold Oper.wp execOp
 simp only [ho,resolve,invoke,builtin,Sem.run_bind,Sem.run_pure,Result.andThen_ok,List.map_toArray,List.map_cons,List.map_nil,hs,hx,hr]; exact h
theorem st_drop (l : By) (c : Nat) : (st l).extract c (st l).size = st (l.drop c) := by
 unfold st
 apply ByteArray.ext
 simp [ByteArray.extract,ByteArray.size,ByteArray.copySlice]
 exact List.take_of_length_le (by simp)
theorem cut_take (c : Nat) (l : Rt) (k : Nat) (h : k < l.length) : cut c (l.take k) ++ [((l.getD k n2).1.drop c,(l.getD k n2).2)] = cut c (l.take (k + 1)) := by
 unfold cut
 rw [List.take_add_one,List.map_append,List.getD_eq_getElem?_getD,List.getElem?_eq_getElem h]; rfl
theorem lit_rv (r : By × By) (w : World) : Rv [r] (.slice (some ⟨w.heap.size,0,none⟩) 1 1) (w.alloc (.cells #[.string (st r.1),.string (st r.2)] 90)) := by
 have HA := heap_alloc_new w (.cells #[.string (st r.1),.string (st r.2)] 90); refine ⟨_,_,rfl,Nat.le_refl _,fun _ => ⟨_,_,rfl,by simp,fun j hj => ?_⟩⟩
 have e : j = 0 := by simpa using hj
 subst e; constructor
 ·simp only [World.cell?,HA]; rfl
 ·simp only [World.cell?,HA]; rfl
structure SW (w : World) (B : Nat) (xr : Rt) (h7 : Nat) (X Z : ByteArray) (oa : Option Addr) (on oc : Nat) (f9 f10 : Bool) (u5 : Value) (wx : World) : Prop where
 o : f9 = false → Ow B xr (.slice oa on oc) wx
 c0 : wx.cell? ⟨h7,0,none⟩ = some (.string X)
 c1 : wx.cell? ⟨h7,1,none⟩ = some (.string Z)
 b : Below B w wx
 s : h7 < wx.heap.size
 l : B ≤ wx.heap.size
 m : f10 = false → u5 = .slice oa on oc
inductive SHI (w : World) (B : Nat) (xr yr : Rt) (g off n cap c h7 k : Nat) (oa : Option Addr) (on oc : Nat) (X Y Z : ByteArray) (v24 : Value) (d : Nat → Bool) (x : Act) (wx : World) : Prop where
 | mk (u5 u14 u15 u16 u17 u18 u19 u20 u21 u22 u23 : Value) (hx : x = { tmps := #[.slice (some ⟨g,off,none⟩) n cap,.int .i64 (c : Int),undef,undef,.slice none 0 0,u5,undef,.pointer (some ⟨h7,0,none⟩),.slice (some ⟨g,off,none⟩) n cap,.int .i64 (n : Int),.int .i64 (k : Int),.bool true,.pointer (some ⟨g,off + k * 2,none⟩),.agg #[.string X,.string Z],u14,u15,u16,u17,u18,u19,u20,u21,u22,u23,v24,undef],defers := [] }) (hw : SW w B xr h7 X Z oa on oc (d 9) (d 10) u5 wx) (p0 : d 0 = true → u14 = .slice oa on oc) (p1 : d 1 = true → u15 = .pointer (some ⟨h7,0,none⟩)) (p2 : d 2 = true → u16 = .string X) (p3 : d 3 = true → u17 = .int .i64 (c : Int)) (p4 : d 4 = true → u18 = .string Y) (p5 : d 5 = true → u19 = .pointer (some ⟨h7,1,none⟩)) (p6 : d 6 = true → u20 = .string Z) (p7 : d 7 = true → u21 = .agg #[.string Y,.string Z]) (z8 : d 8 = true → d 9 = false → Rv yr u22 wx) (z9 : d 9 = true → Ow B (xr ++ yr) u23 wx) (z10 : d 10 = true → Ow B (xr ++ yr) u5 wx) (y10 : d 10 = true → d 0 = true ∧ d 9 = true) : SHI w B xr yr g off n cap c h7 k oa on oc X Y Z v24 d x wx
theorem shorter_any (l : Rt) (c : Nat) (ao : Option Addr) (cap n : Nat) (w : World) (hn : Hid (n = l.length)) (hz : Hid (n ≤ 4194303)) (hl : Hid (Rv l (.slice ao n cap) w)) (hc : Hid (∀ r ∈ l,c ≤ r.1.length)) :
  Calls Tryz.prog 68 #[.slice ao n cap,.int .i64 (c : Int)] w fun e w' => ∃ v,e = .returned v ∧ Ow w.heap.size (cut c l) v w' ∧ Below w.heap.size w w' := by
 go_enter Tryz.func68,Tryz.ntmps68
 go_wp2_with fail
 go_loopw [5,10] (fun o i wr => ∃ k : Nat,k ≤ n ∧ i = .int .i64 (k : Int) ∧ Ow w.heap.size (cut c (l.take k)) o wr ∧ Below w.heap.size w wr) (fun _ i _ => ((n : Int) - intOf i).toNat)
 case atStart => exact ⟨0,Nat.zero_le _,rfl,World.ownsRow_nil _ _ _ _,Below.refl _ _⟩
 case round =>
  obtain ⟨k,hkn,rfl,ho,hB⟩ := hrel; by_cases hlt : k < n
  ·have d0 : decide ((k : Int) < (n : Int)) = true := decide_eq_true (by omega); have d1 : (0 : Int) ≤ (k : Int) := by omega
   have d2 : (k : Int) < (n : Int) := by omega
   have hks : k < l.length := by have := hn.out; omega
   obtain ⟨a',cap',e2,-,hq⟩ := hl.out; obtain ⟨g,off,rfl,hg,hcell⟩ := hq (by omega); injection e2 with e2 e2' e2''
   subst e2; clear e2' e2''; obtain ⟨x0,x1⟩ := hcell k hks; have y0 := (hB.cell (p := ⟨g,off + 2 * k,none⟩) hg).trans x0; have y1 := (hB.cell (p := ⟨g,off + 2 * k + 1,none⟩) hg).trans x1; have hg2 : g < wr.heap.size := Nat.lt_of_lt_of_le hg hB.size; rw [Nat.mul_comm 2 k] at y0 y1; have hcl : c ≤ (l.getD k n2).1.length := by
    refine hc.out _ ?_; rw [List.getD_eq_getElem?_getD,List.getElem?_eq_getElem hks]; exact List.getElem_mem hks
   have HE : Hid (cut c (l.take k) ++ [((l.getD k n2).1.drop c,(l.getD k n2).2)] = cut c (l.take (k + 1))) := cut_take c l k hks; have HLN : Hid ((cut c (l.take k)).length + [((l.getD k n2).1.drop c,(l.getD k n2).2)].length ≤ 4194304) := by
    have := hz.out; show _ ≤ _
    rw [cut_len,List.length_take,List.length_singleton]; omega
   have HLT : Hid (∀ wx : World,Rv [((l.getD k n2).1.drop c,(l.getD k n2).2)] (.slice (some ⟨wx.heap.size,0,none⟩) 1 1) (wx.alloc (.cells #[.string (st ((l.getD k n2).1.drop c)),.string (st (l.getD k n2).2)] 90))) := fun wx => lit_rv _ wx
   have hD := st_drop (l.getD k n2).1 c; have hD2 : (c : Int) ≤ ((st (l.getD k n2).1).size : Int) := by rw [st_size]; omega
   have hD3 : (0 : Int) ≤ (c : Int) := by omega
   have hob0 : ∀ q,u5.ownBlock = some q → q < wr.heap.size := fun q hq => (ho.lt q hq).2
   have bA : Below wr.heap.size wr (wr.alloc (.cells #[.string (st (l.getD k n2).1),.string (st (l.getD k n2).2)] 90)) := (Below.refl _ _).alloc (Nat.le_refl _) _; have HA := heap_alloc_new wr (.cells #[.string (st (l.getD k n2).1),.string (st (l.getD k n2).2)] 90); obtain ⟨oa,on,oc,rfl⟩ := own_slice ho; have HNB : Hid ((Value.slice oa on oc).ownBlock ≠ some wr.heap.size) := fun e => by have := hob0 _ e; omega
   have e5 : Hid (wrap64 ((k : Int) + 1) = ((k + 1 : Nat) : Int)) := by have := hz.out; show _ = _; unfold wrap64; omega
   have hw0 : SW w w.heap.size (cut c (l.take k)) wr.heap.size (st (l.getD k n2).1) (st (l.getD k n2).2) oa on oc false false (.slice oa on oc) (wr.alloc (.cells #[.string (st (l.getD k n2).1),.string (st (l.getD k n2).2)] 90)).drew := by
    refine ⟨fun _ => Pk.ownb (Pk.ownb ho bA) (Below.refl _ _).drew,?_,?_,(hB.trans (bA.mono hB.size)).drew,by simp,by have := hB.size; simp; omega,fun _ => rfl⟩
    ·show (wr.alloc _).cell? _ = _
     simp only [World.cell?,HA]; rfl
    ·show (wr.alloc _).cell? _ = _
     simp only [World.cell?,HA]; rfl
   clear hq hcell x0 x1 ho hob0 HA bA hcl; generalize [((l.getD k n2).1.drop c,(l.getD k n2).2)] = yr at *; generalize st ((l.getD k n2).1.drop c) = Y at *; generalize st (l.getD k n2).1 = X at *; generalize st (l.getD k n2).2 = Z at *; go_upto_region 5 with fail
   generalize wr.alloc (.cells #[.string X,.string Z] 90) = W0 at *; generalize wr.heap.size = h7 at *; refine RI.wp_region_inv (SHI w w.heap.size (cut c (l.take k)) yr g off n cap c h7 k oa on oc X Y Z u24) (by kernel_rfl) (by kernel_rfl) ?_ ?_ ?_
   ·exact ⟨_,u14,u15,u16,u17,u18,u19,u20,u21,u22,u23,rfl,hw0,nofun,nofun,nofun,nofun,nofun,nofun,nofun,nofun,nofun,nofun,nofun,nofun⟩
   ·skip
    intro d x wx i hI hi hm; obtain ⟨u5,u14,u15,u16,u17,u18,u19,u20,u21,u22,u23,rfl,hw,p0,p1,p2,p3,p4,p5,p6,p7,z8,z9,z10,y10⟩ := hI; have hi' : i = 0 ∨ i = 1 ∨ i = 2 ∨ i = 3 ∨ i = 4 ∨ i = 5 ∨ i = 6 ∨ i = 7 ∨ i = 8 ∨ i = 9 ∨ i = 10 := by simp at hi; omega
    have hd := hm.2; have hf := hm.1; clear hm hi; rcases hi' with rfl | rfl | rfl | rfl | rfl | rfl | rfl | rfl | rfl | rfl | rfl
    ·refine RI.wpOp_plain rfl rfl ?_; obtain rfl := hw.m (by cases h10 : d 10 with | false => rfl | true => exact absurd (y10 h10).1 (by simp [hf]))
     go_simp; exact ⟨_,_,u15,u16,u17,u18,u19,u20,u21,u22,u23,rfl,hw,fun _ => rfl,p1,p2,p3,p4,p5,p6,p7,z8,z9,z10,fun h => ⟨rfl,(y10 h).2⟩⟩
    ·refine RI.wpOp_plain rfl rfl ?_; go_simp; exact ⟨u5,u14,_,u16,u17,u18,u19,u20,u21,u22,u23,rfl,hw,p0,fun _ => rfl,p2,p3,p4,p5,p6,p7,z8,z9,z10,y10⟩
    ·have hd := hd _ rfl; simp [Region.binds] at hd
     obtain rfl := p1 (by simp [hd]); refine RI.wpOp_plain rfl rfl ?_; have m0 := hw.c0; go_simp; exact ⟨u5,u14,_,_,u17,u18,u19,u20,u21,u22,u23,rfl,hw,p0,p1,fun _ => rfl,p3,p4,p5,p6,p7,z8,z9,z10,y10⟩
    ·refine RI.wpOp_plain rfl rfl ?_; go_simp; exact ⟨u5,u14,u15,u16,_,u18,u19,u20,u21,u22,u23,rfl,hw,p0,p1,p2,fun _ => rfl,p4,p5,p6,p7,z8,z9,z10,y10⟩
    ·have hd := hd _ rfl; simp [Region.binds] at hd
     obtain rfl := p2 (by simp [hd]); obtain rfl := p3 (by simp [hd]); refine RI.wpOp_plain rfl rfl ?_; go_simp; exact ⟨u5,u14,u15,_,_,_,u19,u20,u21,u22,u23,rfl,hw,p0,p1,p2,p3,fun _ => rfl,p5,p6,p7,z8,z9,z10,y10⟩
    ·refine RI.wpOp_plain rfl rfl ?_; go_simp; exact ⟨u5,u14,u15,u16,u17,u18,_,u20,u21,u22,u23,rfl,hw,p0,p1,p2,p3,p4,fun _ => rfl,p6,p7,z8,z9,z10,y10⟩
    ·have hd := hd _ rfl; simp [Region.binds] at hd
     obtain rfl := p5 (by simp [hd]); refine RI.wpOp_plain rfl rfl ?_; have m1 := hw.c1; go_simp; exact ⟨u5,u14,u15,u16,u17,u18,_,_,u21,u22,u23,rfl,hw,p0,p1,p2,p3,p4,p5,fun _ => rfl,p7,z8,z9,z10,y10⟩
    ·have hd := hd _ rfl; simp [Region.binds] at hd
     obtain rfl := p4 (by simp [hd]); obtain rfl := p6 (by simp [hd]); refine RI.wpOp_plain rfl rfl ?_; go_simp; exact ⟨u5,u14,u15,u16,u17,_,u19,_,_,u22,u23,rfl,hw,p0,p1,p2,p3,p4,p5,p6,fun _ => rfl,z8,z9,z10,y10⟩
    ·have hd := hd _ rfl; simp [Region.binds] at hd
     obtain rfl := p7 (by simp [hd]); refine RI.wpOp_plain rfl rfl ?_; have bA : Below wx.heap.size wx (wx.alloc (.cells #[.string Y,.string Z] 90)) := (Below.refl _ _).alloc (Nat.le_refl _) _; go_simp; exact ⟨u5,u14,u15,u16,u17,u18,u19,u20,_,_,u23,rfl,⟨fun h => Pk.ownb (hw.o h) bA,(bA.cell (p := ⟨h7,0,none⟩) hw.s).trans hw.c0,(bA.cell (p := ⟨h7,1,none⟩) hw.s).trans hw.c1,hw.b.trans (bA.mono hw.l),Nat.lt_of_lt_of_le hw.s bA.size,Nat.le_trans hw.l bA.size,hw.m⟩,p0,p1,p2,p3,p4,p5,p6,p7,fun _ _ => HLT.out wx,(fun h => Pk.ownb (z9 h) bA),(fun h => Pk.ownb (z10 h) bA),(y10)⟩
    ·have hd := hd _ rfl; simp [Region.binds] at hd
     obtain rfl := p0 (by simp [hd]); refine RI.wpOp_plain rfl rfl ?_; obtain ⟨v',w',hap,ho',hb',hgr⟩ := app_rv 86 (hw.o hf) (z8 (by simp [hd]) hf) hw.l HLN.out; obtain ⟨a22,c22,rfl,-,-⟩ := id (z8 (by simp [hd]) hf); have hob : h7 < wx.heap.size → wx.heap[h7]? = w'.heap[h7]? := fun h => (hgr.block h7 h (fun e => HNB.out e.symm)).symm
     refine wp_apw rfl rfl rfl hap ?_; simp only [Act.put]; exact ⟨u5,_,u15,u16,u17,u18,u19,u20,u21,_,_,rfl,⟨nofun,(World.cell?_of_block (a := ⟨h7,0,none⟩) (hob hw.s).symm).trans hw.c0,(World.cell?_of_block (a := ⟨h7,1,none⟩) (hob hw.s).symm).trans hw.c1,hw.b.trans hb',Nat.lt_of_lt_of_le hw.s hb'.size,Nat.le_trans hw.l hb'.size,hw.m⟩,p0,p1,p2,p3,p4,p5,p6,p7,(fun _ h => nomatch h),fun _ => ho',fun h => absurd (y10 h).2 (by simp [hf]),fun h => ⟨(y10 h).1,rfl⟩⟩
    ·have hd := hd _ rfl; simp [Region.binds] at hd
     obtain rfl := p0 (by simp [hd]); obtain rfl := p1 (by simp [hd]); obtain rfl := p2 (by simp [hd]); obtain rfl := p3 (by simp [hd]); obtain rfl := p4 (by simp [hd]); obtain rfl := p5 (by simp [hd]); obtain rfl := p6 (by simp [hd]); obtain rfl := p7 (by simp [hd]); refine RI.wpOp_plain rfl rfl ?_; go_simp; exact ⟨_,_,_,_,_,_,_,_,_,u22,u23,rfl,⟨hw.o,hw.c0,hw.c1,hw.b,hw.s,hw.l,nofun⟩,p0,p1,p2,p3,p4,p5,p6,p7,z8,z9,fun _ => z9 (by simp [hd]),fun _ => ⟨by simp [RI.don,hd],by simp [RI.don,hd]⟩⟩
   ·skip
    intro d x wx hI hd; obtain ⟨u5,u14,u15,u16,u17,u18,u19,u20,u21,u22,u23,rfl,hw,p0,p1,p2,p3,p4,p5,p6,p7,z8,z9,z10,y10⟩ := hI; have so := z10 (hd 10 (by decide)); have hBw := hw.b; rw [HE.out] at so; clear p0 p1 p2 p3 p4 p5 p6 p7 z8 z9 z10 y10; go_wp2_with fail
    rw [e5.out]; exact ⟨⟨k + 1,hlt,rfl,so,hBw⟩,msr_up k n hlt⟩
  ·have d0 : decide ((k : Int) < (n : Int)) = false := decide_eq_false (by omega); have ek : l.take k = l := List.take_of_length_le (by have := hn.out; omega)
   rw [ek] at ho; go_wp2_with fail
   go_ret
   exact ⟨_,rfl,ho,hB⟩
end Tr
end Go.Proofs.YtlbdaccmnpcccaaGreatDoor
namespace Go.Proofs.YtlbdaccmnpcccaaGreatDoor
namespace Tr
open Nb Go.RowKit
def Bs (S : Nat → Prop) (b : By) (v : Value) (w : World) : Prop := ∃ (ao : Option Addr) (cap : Nat),v = .slice ao b.length cap ∧ b.length ≤ cap ∧ (0 < b.length → ∃ h off,ao = some ⟨h,off,none⟩ ∧ S h ∧ h < w.heap.size ∧ ∀ j,j < b.length → w.cell? ⟨h,off + j,none⟩ = some (.int .u8 (Sp.bz b j)))
abbrev V4 := Value × Value × Value × Value
def v4 (p : V4) : Value := .agg #[p.1,p.2.1,p.2.2.1,p.2.2.2]
def n4 : V4 := (undef,undef,undef,undef)
def Ks (S : Nat → Prop) (vs : List V4) (v : Value) (w : World) : Prop := ∃ (ao : Option Addr) (cap : Nat),v = .slice ao vs.length cap ∧ vs.length ≤ cap ∧ (0 < vs.length → ∃ h off,ao = some ⟨h,off,none⟩ ∧ S h ∧ h < w.heap.size ∧ ∀ j,j < vs.length → w.cell? ⟨h,off + 4 * j,none⟩ = some (vs.getD j n4).1 ∧ w.cell? ⟨h,off + 4 * j + 1,none⟩ = some (vs.getD j n4).2.1 ∧ w.cell? ⟨h,off + 4 * j + 2,none⟩ = some (vs.getD j n4).2.2.1 ∧ w.cell? ⟨h,off + 4 * j + 3,none⟩ = some (vs.getD j n4).2.2.2)
inductive Nv (S : Nat → Prop) (w : World) : Nd → V4 → Prop where
 | mk (k : Int) (p v : By) (ks : List Nd) (pv vv kv : Value) (vs : List V4) (hp : Bs S p pv w) (hv : Bs S v vv w) (hl : vs.length = ks.length) (hk : Ks S vs kv w) (hi : ∀ j,j < ks.length → Nv S w (ks.getD j Nd.no) (vs.getD j n4)) : Nv S w (.mk k p v ks) (.int .i64 k,pv,vv,kv)
theorem Bs_gb {S : Nat → Prop} {b : By} {v : Value} {w w' : World} {r : Option Nat} (h : Bs S b v w) (hb : w.grownBy w' r) (hr : ∀ k,S k → some k ≠ r) : Bs S b v w' := by
 obtain ⟨ao,cap,h1,h2,h4⟩ := h; refine ⟨ao,cap,h1,h2,fun h0 => ?_⟩
 obtain ⟨k,off,e,hne,hlt,hc⟩ := h4 h0; have hbk : w'.heap[k]? = w.heap[k]? := hb.block k hlt (hr k hne); exact ⟨k,off,e,hne,Nat.lt_of_lt_of_le hlt hb.size,fun j hj => (World.cell?_of_block (a := ⟨k,off + j,none⟩) hbk).trans (hc j hj)⟩
theorem Bs_mono {S S' : Nat → Prop} {b : By} {v : Value} {w : World} (h : Bs S b v w) (hs : ∀ k,S k → k < w.heap.size → S' k) : Bs S' b v w := by
 obtain ⟨ao,cap,h1,h2,h4⟩ := h; refine ⟨ao,cap,h1,h2,fun h0 => ?_⟩
 obtain ⟨k,off,e,hne,hlt,hc⟩ := h4 h0; exact ⟨k,off,e,hs k hne hlt,hlt,hc⟩
theorem Bs_nil (S : Nat → Prop) (w : World) : Bs S [] (.slice none 0 0) w := ⟨none,0,rfl,Nat.le_refl _,fun h => absurd h (by simp)⟩
theorem Bs_sl {S : Nat → Prop} {b : By} {v : Value} {w : World} (h : Bs S b v w) : Pk.Sl b v w := by
 obtain ⟨ao,cap,h1,h2,h4⟩ := h; refine ⟨ao,cap,h1,h2,fun h0 => ?_⟩
 obtain ⟨k,off,e,hne,hlt,hc⟩ := h4 h0; exact ⟨k,off,e,hlt,hc⟩
theorem sl_bs {S : Nat → Prop} {b : By} {h n c : Nat} {w : World} (hs : S h) (hl : Pk.Sl b (.slice (some ⟨h,0,none⟩) n c) w) : Bs S b (.slice (some ⟨h,0,none⟩) n c) w := by
 obtain ⟨ao,cap,h1,h2,h4⟩ := hl; injection h1 with e1 e2 e3
 subst e1 e2 e3; refine ⟨_,_,rfl,h2,fun h0 => ?_⟩
 obtain ⟨k,off,e,hlt,hc⟩ := h4 h0; injection e with e
 injection e with e1 e2
 subst e1 e2; exact ⟨h,0,rfl,hs,hlt,hc⟩
theorem Ks_gb {S : Nat → Prop} {vs : List V4} {v : Value} {w w' : World} {r : Option Nat} (h : Ks S vs v w) (hb : w.grownBy w' r) (hr : ∀ k,S k → some k ≠ r) : Ks S vs v w' := by
 obtain ⟨ao,cap,h1,h2,h4⟩ := h; refine ⟨ao,cap,h1,h2,fun h0 => ?_⟩
 obtain ⟨k,off,e,hne,hlt,hc⟩ := h4 h0; have hbk : w'.heap[k]? = w.heap[k]? := hb.block k hlt (hr k hne); exact ⟨k,off,e,hne,Nat.lt_of_lt_of_le hlt hb.size,fun j hj => ⟨(World.cell?_of_block (a := ⟨k,off + 4 * j,none⟩) hbk).trans (hc j hj).1,(World.cell?_of_block (a := ⟨k,off + 4 * j + 1,none⟩) hbk).trans (hc j hj).2.1,(World.cell?_of_block (a := ⟨k,off + 4 * j + 2,none⟩) hbk).trans (hc j hj).2.2.1,(World.cell?_of_block (a := ⟨k,off + 4 * j + 3,none⟩) hbk).trans (hc j hj).2.2.2⟩⟩
theorem Ks_mono {S S' : Nat → Prop} {vs : List V4} {v : Value} {w : World} (h : Ks S vs v w) (hs : ∀ k,S k → k < w.heap.size → S' k) : Ks S' vs v w := by
 obtain ⟨ao,cap,h1,h2,h4⟩ := h; refine ⟨ao,cap,h1,h2,fun h0 => ?_⟩
 obtain ⟨k,off,e,hne,hlt,hc⟩ := h4 h0; exact ⟨k,off,e,hs k hne hlt,hlt,hc⟩
theorem Ks_nil (S : Nat → Prop) (w : World) : Ks S [] (.slice none 0 0) w := ⟨none,0,rfl,Nat.le_refl _,fun h => absurd h (by simp)⟩
theorem Nv_gb {S : Nat → Prop} {t : Nd} {v : V4} {w w' : World} {r : Option Nat} (h : Nv S w t v) (hb : w.grownBy w' r) (hr : ∀ k,S k → some k ≠ r) : Nv S w' t v := by
 induction h with
 | mk k p v ks pv vv kv vs hp hv hl hk hi ih => exact .mk k p v ks pv vv kv vs (Bs_gb hp hb hr) (Bs_gb hv hb hr) hl (Ks_gb hk hb hr) ih
theorem Nv_mono {S S' : Nat → Prop} {t : Nd} {v : V4} {w : World} (h : Nv S w t v) (hs : ∀ k,S k → k < w.heap.size → S' k) : Nv S' w t v := by
 induction h with
 | mk k p v ks pv vv kv vs hp hv hl hk hi ih => exact .mk k p v ks pv vv kv vs (Bs_mono hp hs) (Bs_mono hv hs) hl (Ks_mono hk hs) ih
theorem gb_below {a b : World} {r : Option Nat} (h : Below a.heap.size a b) : a.grownBy b r := ⟨h.os,h.tape,h.output,h.size,fun k hk _ => h.block k hk⟩
theorem Nv_below {S : Nat → Prop} {t : Nd} {v : V4} {w w' : World} (h : Nv S w t v) (hb : Below w.heap.size w w') : Nv S w' t v := Nv_gb (r := none) h (gb_below hb) (fun k _ e => by cases e)
theorem Bs_below {S : Nat → Prop} {b : By} {v : Value} {w w' : World} (h : Bs S b v w) (hb : Below w.heap.size w w') : Bs S b v w' := Bs_gb (r := none) h (gb_below hb) (fun k _ e => by cases e)
theorem Ks_below {S : Nat → Prop} {vs : List V4} {v : Value} {w w' : World} (h : Ks S vs v w) (hb : Below w.heap.size w w') : Ks S vs v w' := Ks_gb (r := none) h (gb_below hb) (fun k _ e => by cases e)
theorem Nv_form {S : Nat → Prop} {t : Nd} {v : V4} {w : World} (h : Nv S w t v) : ∃ k a1 n1 c1 a2 n2 c2 a3 n3 c3,v = (.int .i64 k,.slice a1 n1 c1,.slice a2 n2 c2,.slice a3 n3 c3) := by
 cases h with
 | mk k p v ks pv vv kv vs hp hv hl hk hi =>
  obtain ⟨a1,c1,rfl,_⟩ := hp; obtain ⟨a2,c2,rfl,_⟩ := hv; obtain ⟨a3,c3,rfl,_⟩ := hk; exact ⟨k,a1,_,c1,a2,_,c2,a3,_,c3,rfl⟩
theorem Nv_no (S : Nat → Prop) (w : World) : Nv S w Nd.no (.int .i64 0,.slice none 0 0,.slice none 0 0,.slice none 0 0) := .mk 0 [] [] [] _ _ _ [] (Bs_nil _ _) (Bs_nil _ _) rfl (Ks_nil _ _) (fun j hj => absurd hj (by simp))
def Bx (h : Nat) (u : V4) (w : World) : Prop := h < w.heap.size ∧ w.cell? ⟨h,0,none⟩ = some u.1 ∧ w.cell? ⟨h,1,none⟩ = some u.2.1 ∧ w.cell? ⟨h,2,none⟩ = some u.2.2.1 ∧ w.cell? ⟨h,3,none⟩ = some u.2.2.2
theorem Bx_new (w : World) (u : V4) : Bx w.heap.size u (w.alloc (.cells #[u.1,u.2.1,u.2.2.1,u.2.2.2] 25)) := by
 have HA := heap_alloc_new w (.cells #[u.1,u.2.1,u.2.2.1,u.2.2.2] 25); refine ⟨by simp,?_,?_,?_,?_⟩ <;> (simp only [World.cell?,HA]; rfl)
theorem Bx_below {h : Nat} {u : V4} {w w' : World} (k : Bx h u w) (b : Below w.heap.size w w') : Bx h u w' :=
 ⟨Nat.lt_of_lt_of_le k.1 b.size,(b.cell (p := ⟨h,0,none⟩) k.1).trans k.2.1,(b.cell (p := ⟨h,1,none⟩) k.1).trans k.2.2.1,(b.cell (p := ⟨h,2,none⟩) k.1).trans k.2.2.2.1,(b.cell (p := ⟨h,3,none⟩) k.1).trans k.2.2.2.2⟩
end Tr
end Go.Proofs.YtlbdaccmnpcccaaGreatDoor
namespace Go.Proofs.YtlbdaccmnpcccaaGreatDoor
namespace Tr
open Nb Go.RowKit
mutual
def sn : Nd → Nd → Bool
 | .mk k p v ks,.mk k2 p2 v2 ks2 => decide (k = k2) && (if k = 1 then decide (p = p2) && decide (v = v2) else if k = 2 then decide (p = p2) && sns ks ks2 else if k = 3 then decide (v = v2) && sns ks ks2 else true)
def sns : List Nd → List Nd → Bool
 | [],[] => true
 | a :: r,b :: s => sn a b && sns r s
 | [],_ :: _ => false
 | _ :: _,[] => false
end
mutual
theorem sn_bn : ∀ a b : Nd,sn a b = true ↔ bn a = bn b
 | .mk k p v ks,.mk k2 p2 v2 ks2 => by
  unfold sn
  rw [Bool.and_eq_true,decide_eq_true_eq]; constructor
  ·rintro ⟨rfl,h⟩; unfold bn
   split at h
   ·rename_i h1
    rw [Bool.and_eq_true,decide_eq_true_eq,decide_eq_true_eq] at h; rw [if_pos h1,if_pos h1,h.1,h.2]
   split at h
   ·rename_i h1 h2
    rw [Bool.and_eq_true,decide_eq_true_eq,sns_bns ks ks2] at h; rw [if_neg h1,if_neg h1,if_pos h2,if_pos h2,h.1,h.2]
   split at h
   ·rename_i h1 h2 h3
    rw [Bool.and_eq_true,decide_eq_true_eq,sns_bns ks ks2] at h; rw [if_neg h1,if_neg h1,if_neg h2,if_neg h2,if_pos h3,if_pos h3,h.1,h.2]
   ·rename_i h1 h2 h3
    rw [if_neg h1,if_neg h1,if_neg h2,if_neg h2,if_neg h3,if_neg h3]
  ·intro h; have hk : k = k2 := by
    have := congrArg Nd.kind h; rwa [bn_kind,bn_kind] at this
   subst hk; refine ⟨rfl,?_⟩; unfold bn at h
   split
   ·rename_i h1
    rw [if_pos h1,if_pos h1] at h; injection h with _ e1 e2 _
    rw [Bool.and_eq_true,decide_eq_true_eq,decide_eq_true_eq]; exact ⟨e1,e2⟩
   split
   ·rename_i h1 h2
    rw [if_neg h1,if_neg h1,if_pos h2,if_pos h2] at h; injection h with _ e1 _ e2
    rw [Bool.and_eq_true,decide_eq_true_eq,sns_bns ks ks2]; exact ⟨e1,e2⟩
   split
   ·rename_i h1 h2 h3
    rw [if_neg h1,if_neg h1,if_neg h2,if_neg h2,if_pos h3,if_pos h3] at h; injection h with _ _ e1 e2
    rw [Bool.and_eq_true,decide_eq_true_eq,sns_bns ks ks2]; exact ⟨e1,e2⟩
   ·rfl
theorem sns_bns : ∀ a b : List Nd,sns a b = true ↔ bns a = bns b
 | [],[] => by simp [sns,bns]
 | [],_ :: _ => by simp [sns,bns]
 | _ :: _,[] => by simp [sns,bns]
 | k :: a,j :: b => by
  unfold sns bns
  rw [Bool.and_eq_true,sn_bn k j,sns_bns a b,List.cons.injEq]
end
theorem sns_len : ∀ a b : List Nd,a.length ≠ b.length → sns a b = false
 | [],[],h => absurd rfl h
 | [],_ :: _,_ => by simp [sns]
 | _ :: _,[],_ => by simp [sns]
 | k :: a,j :: b,h => by
  unfold sns
  rw [sns_len a b (by simpa using h),Bool.and_false]
theorem sns_all : ∀ a b : List Nd,a.length = b.length → (∀ j,j < a.length → sn (a.getD j Nd.no) (b.getD j Nd.no) = true) → sns a b = true
 | [],[],_,_ => by simp [sns]
 | [],_ :: _,h,_ => by simp at h
 | _ :: _,[],h,_ => by simp at h
 | k :: a,j :: b,h,hi => by
  have h0 := hi 0 (by simp); have h1 := sns_all a b (by simpa using h) (fun i hj => by have := hi (i + 1) (by simpa using hj); simpa only [List.getD_cons_succ] using this)
  unfold sns
  rw [h1,Bool.and_true]; simpa only [List.getD_cons_zero] using h0
theorem sns_one : ∀ (a b : List Nd) (i : Nat),a.length = b.length → i < a.length → sn (a.getD i Nd.no) (b.getD i Nd.no) = false → sns a b = false
 | [],[],i,_,hi,_ => by simp at hi
 | [],_ :: _,_,h,_,_ => by simp at h
 | _ :: _,[],h,_,_,_ => by simp_all
 | k :: a,j :: b,0,_,_,hs => by
  unfold sns
  rw [show sn k j = false from hs,Bool.false_and]
 | k :: a,j :: b,i + 1,h,hi,hs => by
  unfold sns
  rw [sns_one a b i (by simpa using h) (by simpa using hi) (by simpa only [List.getD_cons_succ] using hs),Bool.and_false]
theorem eqf_len (a1 a2 : Option Addr) (n1 c1 n2 c2 : Nat) (w : World) (h : n1 ≠ n2) :
  Calls Tryz.prog 66 #[.slice a1 n1 c1,.slice a2 n2 c2,.func (.func 42) #[] #[]] w fun e w' => e = .returned (.bool false) ∧ Below w.heap.size w w' := by
 have d0 : ((n1 : Int) != (n2 : Int)) = true := bne_iff_ne.2 (by omega); have d1 : (n1 != n2) = true := bne_iff_ne.2 h; have B : Hid (Below w.heap.size w w) := Below.refl _ _; go_enter Tryz.func66,Tryz.ntmps66
 go_wp2_with fail
 go_ret
 exact ⟨rfl,B.out⟩
theorem eqf_any (S T : Nat → Prop) (ks js : List Nd) (vs us : List V4) (a1 a2 : Option Addr) (n c1 c2 : Nat) (w : World) (hn : Hid (n = ks.length)) (hn2 : Hid (n = js.length)) (hl : Hid (vs.length = ks.length)) (hl2 : Hid (us.length = js.length))
  (hk : Hid (Ks S vs (.slice a1 n c1) w)) (hk2 : Hid (Ks T us (.slice a2 n c2) w)) (hi : Hid (∀ j,j < ks.length → Nv S w (ks.getD j Nd.no) (vs.getD j n4))) (hi2 : Hid (∀ j,j < js.length → Nv T w (js.getD j Nd.no) (us.getD j n4)))
  (IH : Hid (∀ j,j < ks.length → ∀ (v u : V4) (w : World),Nv S w (ks.getD j Nd.no) v → Nv T w (js.getD j Nd.no) u → Calls Tryz.prog 42 #[v4 v,v4 u] w fun e w' => e = .returned (.bool (sn (ks.getD j Nd.no) (js.getD j Nd.no))) ∧ Below w.heap.size w w')) (hz : Hid (n ≤ 4194304)) :
  Calls Tryz.prog 66 #[.slice a1 n c1,.slice a2 n c2,.func (.func 42) #[] #[]] w fun e w' => e = .returned (.bool (sns ks js)) ∧ Below w.heap.size w w' := by
 have d0 : ((n : Int) != (n : Int)) = false := by simp
 go_enter Tryz.func66,Tryz.ntmps66
 go_wp2_with fail
 go_loopw [17] (fun i wr => ∃ k : Nat,k ≤ n ∧ i = .int .i64 (k : Int) ∧ (∀ j,j < k → sn (ks.getD j Nd.no) (js.getD j Nd.no) = true) ∧ Below w.heap.size w wr) (fun i _ => ((n : Int) - intOf i).toNat)
 case atStart => exact ⟨0,Nat.zero_le _,rfl,fun j hj => absurd hj (by omega),Below.refl _ _⟩
 case round =>
  obtain ⟨k,hkn,rfl,hall,hB⟩ := hrel; by_cases hlt : k < n
  ·have d0 : decide ((k : Int) < (n : Int)) = true := decide_eq_true (by omega); have d1 : (0 : Int) ≤ (k : Int) := by omega
   have d2 : (k : Int) < (n : Int) := by omega
   have hks : k < ks.length := by have := hn.out; omega
   have hjs : k < js.length := by have := hn2.out; omega
   obtain ⟨ao,cap,e2,-,hq⟩ := hk.out; obtain ⟨gk,off,rfl,-,hgk,hcell⟩ := hq (by have := hl.out; omega)
   injection e2 with e2 e2' e2''
   subst e2; clear e2' e2''; obtain ⟨ao2,cap2,e3,-,hq2⟩ := hk2.out; obtain ⟨gj,off2,rfl,-,hgj,hcell2⟩ := hq2 (by have := hl2.out; omega)
   injection e3 with e3 e3' e3''
   subst e3; clear e3' e3''; obtain ⟨x0,x1,x2,x3⟩ := hcell k (by have := hl.out; omega)
   obtain ⟨y0,y1,y2,y3⟩ := hcell2 k (by have := hl2.out; omega)
   have iv := hi.out k hks; have jv := hi2.out k hjs; obtain ⟨q,b1,m1,q1,b2,m2,q2,b3,m3,q3,ev⟩ := Nv_form iv; obtain ⟨r,f1,s1,r1,f2,s2,r2,f3,s3,r3,eu⟩ := Nv_form jv; rw [ev] at x0 x1 x2 x3 iv; rw [eu] at y0 y1 y2 y3 jv; have KB : Hid (∀ w : World,Nv S w (ks.getD k Nd.no) (.int .i64 q,.slice b1 m1 q1,.slice b2 m2 q2,.slice b3 m3 q3) → Nv T w (js.getD k Nd.no) (.int .i64 r,.slice f1 s1 r1,.slice f2 s2 r2,.slice f3 s3 r3) → Calls Tryz.prog 42 #[.agg #[.int .i64 q,.slice b1 m1 q1,.slice b2 m2 q2,.slice b3 m3 q3],.agg #[.int .i64 r,.slice f1 s1 r1,.slice f2 s2 r2,.slice f3 s3 r3]] w fun e w' => e = .returned (.bool (sn (ks.getD k Nd.no) (js.getD k Nd.no))) ∧ Below w.heap.size w w') := IH.out k hks (.int .i64 q,.slice b1 m1 q1,.slice b2 m2 q2,.slice b3 m3 q3) (.int .i64 r,.slice f1 s1 r1,.slice f2 s2 r2,.slice f3 s3 r3)
   have z0 := (hB.cell (p := ⟨gk,off + 4 * k,none⟩) hgk).trans x0; have z1 := (hB.cell (p := ⟨gk,off + 4 * k + 1,none⟩) hgk).trans x1; have z2 := (hB.cell (p := ⟨gk,off + 4 * k + 2,none⟩) hgk).trans x2; have z3 := (hB.cell (p := ⟨gk,off + 4 * k + 3,none⟩) hgk).trans x3; have t0 := (hB.cell (p := ⟨gj,off2 + 4 * k,none⟩) hgj).trans y0; have t1 := (hB.cell (p := ⟨gj,off2 + 4 * k + 1,none⟩) hgj).trans y1; have t2 := (hB.cell (p := ⟨gj,off2 + 4 * k + 2,none⟩) hgj).trans y2; have t3 := (hB.cell (p := ⟨gj,off2 + 4 * k + 3,none⟩) hgj).trans y3; have hgk2 : gk < wr.heap.size := Nat.lt_of_lt_of_le hgk hB.size; have hgj2 : gj < wr.heap.size := Nat.lt_of_lt_of_le hgj hB.size; rw [Nat.mul_comm 4 k] at z0 z1 z2 z3 t0 t1 t2 t3; have bA : Below wr.heap.size wr ((wr.alloc (.cells #[.int .i64 q,.slice b1 m1 q1,.slice b2 m2 q2,.slice b3 m3 q3] 25)).alloc (.cells #[.int .i64 r,.slice f1 s1 r1,.slice f2 s2 r2,.slice f3 s3 r3] 25)) := ((Below.refl _ _).alloc (Nat.le_refl _) _).alloc (by simp) _; have IW : Hid (Nv S ((wr.alloc (.cells #[.int .i64 q,.slice b1 m1 q1,.slice b2 m2 q2,.slice b3 m3 q3] 25)).alloc (.cells #[.int .i64 r,.slice f1 s1 r1,.slice f2 s2 r2,.slice f3 s3 r3] 25)) (ks.getD k Nd.no) (.int .i64 q,.slice b1 m1 q1,.slice b2 m2 q2,.slice b3 m3 q3)) := Nv_below (Nv_below iv hB) bA; have JW : Hid (Nv T ((wr.alloc (.cells #[.int .i64 q,.slice b1 m1 q1,.slice b2 m2 q2,.slice b3 m3 q3] 25)).alloc (.cells #[.int .i64 r,.slice f1 s1 r1,.slice f2 s2 r2,.slice f3 s3 r3] 25)) (js.getD k Nd.no) (.int .i64 r,.slice f1 s1 r1,.slice f2 s2 r2,.slice f3 s3 r3)) := Nv_below (Nv_below jv hB) bA; have B2 : Hid (Below w.heap.size w ((wr.alloc (.cells #[.int .i64 q,.slice b1 m1 q1,.slice b2 m2 q2,.slice b3 m3 q3] 25)).alloc (.cells #[.int .i64 r,.slice f1 s1 r1,.slice f2 s2 r2,.slice f3 s3 r3] 25))) := hB.trans (bA.mono hB.size); have e5 : Hid (wrap64 ((k : Int) + 1) = ((k + 1 : Nat) : Int)) := by have := hz.out; show _ = _; unfold wrap64; omega
   have HALL : Hid _ := hall; have HF : Hid (sn (ks.getD k Nd.no) (js.getD k Nd.no) = false → sns ks js = false) := fun h => sns_one ks js k (by have := hn.out; have := hn2.out; omega) hks h
   clear hq hq2 hcell hcell2 x0 x1 x2 x3 y0 y1 y2 y3 ev eu iv jv bA hall hks hjs; go_wp2_with fail
   refine (KB.out _ IW.out JW.out).mono (fun e w5 he => ?_)
   obtain ⟨rfl,b5⟩ := he; have B5 : Below w.heap.size w w5 := B2.out.trans (b5.mono B2.out.size); clear KB IW JW B2 z0 z1 z2 z3 t0 t1 t2 t3 b5; cases hb : sn (ks.getD k Nd.no) (js.getD k Nd.no) with
   | true =>
    go_wp2_with fail
    rw [e5.out]; refine ⟨⟨k + 1,hlt,rfl,fun j hj => ?_,B5⟩,msr_up k n hlt⟩
    rcases Nat.lt_or_ge j k with h | h
    ·exact HALL.out j h
    ·have e : j = k := by omega
     rw [e]; exact hb
   | false =>
    have hf : Hid (sns ks js = false) := HF.out hb; go_wp2_with fail
    go_ret
    exact ⟨by rw [hf.out]; rfl,B5⟩
  ·have d0 : decide ((k : Int) < (n : Int)) = false := decide_eq_false (by omega); have hs : Hid (sns ks js = true) := sns_all ks js (by have := hn.out; have := hn2.out; omega) (fun j hj => hall j (by have := hn.out; omega))
   have BF : Hid (Below w.heap.size w wr) := hB; go_wp2_with fail
   go_ret
   exact ⟨by rw [hs.out]; rfl,BF.out⟩
end Tr
end Go.Proofs.YtlbdaccmnpcccaaGreatDoor
namespace Go.Proofs.YtlbdaccmnpcccaaGreatDoor
namespace Tr
open Nb Go.RowKit
theorem same_kind (a1 a2 a3 b1 b2 b3 : Option Addr) (n1 c1 n2 c2 n3 c3 m1 d1 m2 d2 m3 d3 : Nat) (w : World) (k j : Int) (h : k ≠ j) :
  Calls Tryz.prog 42 #[.agg #[.int .i64 k,.slice a1 n1 c1,.slice a2 n2 c2,.slice a3 n3 c3],.agg #[.int .i64 j,.slice b1 m1 d1,.slice b2 m2 d2,.slice b3 m3 d3]] w fun e w' => e = .returned (.bool false) ∧ Below w.heap.size w w' := by
 have d0 : (k != j) = true := bne_iff_ne.2 h; have B1 : Below w.heap.size w ((w.alloc (.cells #[.int .i64 k,.slice a1 n1 c1,.slice a2 n2 c2,.slice a3 n3 c3] 25)).alloc (.cells #[.int .i64 j,.slice b1 m1 d1,.slice b2 m2 d2,.slice b3 m3 d3] 25)) := ((Below.refl _ _).alloc (Nat.le_refl _) _).alloc (by simp) _; have B : Hid (Below w.heap.size w ((w.alloc (.cells #[.int .i64 k,.slice a1 n1 c1,.slice a2 n2 c2,.slice a3 n3 c3] 25)).alloc (.cells #[.int .i64 j,.slice b1 m1 d1,.slice b2 m2 d2,.slice b3 m3 d3] 25))) := B1; clear B1 h; go_enter Tryz.func42,Tryz.ntmps42
 go_wp2_with fail
 go_ret
 exact ⟨rfl,B.out⟩
theorem same_other (a1 a2 a3 b1 b2 b3 : Option Addr) (n1 c1 n2 c2 n3 c3 m1 d1 m2 d2 m3 d3 : Nat) (w : World) (k : Int) (h1 : k ≠ 1) (h2 : k ≠ 2) (h3 : k ≠ 3) :
  Calls Tryz.prog 42 #[.agg #[.int .i64 k,.slice a1 n1 c1,.slice a2 n2 c2,.slice a3 n3 c3],.agg #[.int .i64 k,.slice b1 m1 d1,.slice b2 m2 d2,.slice b3 m3 d3]] w fun e w' => e = .returned (.bool true) ∧ Below w.heap.size w w' := by
 have d0 : (k != k) = false := by simp
 have e1 : (k == 1) = false := beq_eq_false_iff_ne.2 h1; have e2 : (k == 2) = false := beq_eq_false_iff_ne.2 h2; have e3 : (k == 3) = false := beq_eq_false_iff_ne.2 h3; have B1 : Below w.heap.size w ((w.alloc (.cells #[.int .i64 k,.slice a1 n1 c1,.slice a2 n2 c2,.slice a3 n3 c3] 25)).alloc (.cells #[.int .i64 k,.slice b1 m1 d1,.slice b2 m2 d2,.slice b3 m3 d3] 25)) := ((Below.refl _ _).alloc (Nat.le_refl _) _).alloc (by simp) _; have B : Hid (Below w.heap.size w ((w.alloc (.cells #[.int .i64 k,.slice a1 n1 c1,.slice a2 n2 c2,.slice a3 n3 c3] 25)).alloc (.cells #[.int .i64 k,.slice b1 m1 d1,.slice b2 m2 d2,.slice b3 m3 d3] 25))) := B1; clear B1 h1 h2 h3; go_enter Tryz.func42,Tryz.ntmps42
 go_wp2_with fail
 go_ret
 exact ⟨rfl,B.out⟩
theorem same_leaf (a1 a2 a3 b1 b2 b3 : Option Addr) (n1 c1 n2 c2 n3 c3 m1 d1 m2 d2 m3 d3 : Nat) (w : World) (p v q u : By) (hp : Pk.Sl p (.slice a1 n1 c1) w) (hv : Pk.Sl v (.slice a2 n2 c2) w) (hq : Pk.Sl q (.slice b1 m1 d1) w) (hu : Pk.Sl u (.slice b2 m2 d2) w) :
  Calls Tryz.prog 42 #[.agg #[.int .i64 1,.slice a1 n1 c1,.slice a2 n2 c2,.slice a3 n3 c3],.agg #[.int .i64 1,.slice b1 m1 d1,.slice b2 m2 d2,.slice b3 m3 d3]] w fun e w' => e = .returned (.bool (decide (p = q) && decide (v = u))) ∧ Below w.heap.size w w' := by
 have B1 : Below w.heap.size w ((w.alloc (.cells #[.int .i64 1,.slice a1 n1 c1,.slice a2 n2 c2,.slice a3 n3 c3] 25)).alloc (.cells #[.int .i64 1,.slice b1 m1 d1,.slice b2 m2 d2,.slice b3 m3 d3] 25)) := ((Below.refl _ _).alloc (Nat.le_refl _) _).alloc (by simp) _; have B : Hid (Below w.heap.size w ((w.alloc (.cells #[.int .i64 1,.slice a1 n1 c1,.slice a2 n2 c2,.slice a3 n3 c3] 25)).alloc (.cells #[.int .i64 1,.slice b1 m1 d1,.slice b2 m2 d2,.slice b3 m3 d3] 25))) := B1; have x1 := Sl_st (Pk.Sl_below hp B1); have x2 := Sl_st (Pk.Sl_below hv B1); have x3 := Sl_st (Pk.Sl_below hq B1); have x4 := Sl_st (Pk.Sl_below hu B1); clear B1 hp hv hq hu; by_cases h1 : p = q
 ·subst h1; by_cases h2 : v = u
  ·subst h2; rw [decide_eq_true rfl,decide_eq_true rfl,Bool.true_and]; generalize st p = X at *; generalize st v = Y at *; go_enter Tryz.func42,Tryz.ntmps42
   go_wp2_with fail
   go_ret
   exact ⟨rfl,B.out⟩
  ·have hne : ((st v).toList == (st u).toList) = false := by rw [st_list,st_list]; exact beq_eq_false_iff_ne.2 h2
   have hne2 : ¬ (st v).toList = (st u).toList := by rw [st_list,st_list]; exact h2
   rw [decide_eq_true rfl,decide_eq_false h2,Bool.true_and]; generalize st p = X at *; generalize st v = Y at *; generalize st u = Z at *; go_enter Tryz.func42,Tryz.ntmps42
   go_wp2_with fail
   go_ret
   exact ⟨by first | rfl | simp [hne] | simp [hne2],B.out⟩
 ·have hne : ((st p).toList == (st q).toList) = false := by rw [st_list,st_list]; exact beq_eq_false_iff_ne.2 h1
  have hne2 : ¬ (st p).toList = (st q).toList := by rw [st_list,st_list]; exact h1
  rw [decide_eq_false h1,Bool.false_and]; generalize st p = X at *; generalize st q = Z at *; go_enter Tryz.func42,Tryz.ntmps42
  go_wp2_with fail
  go_ret
  exact ⟨by first | rfl | simp [hne] | simp [hne2],B.out⟩
theorem same_road (a1 a2 a3 b1 b2 b3 : Option Addr) (n1 c1 n2 c2 n3 c3 m1 d1 m2 d2 m3 d3 : Nat) (w : World) (p q : By) (R : Bool) (hp : Pk.Sl p (.slice a1 n1 c1) w) (hq : Pk.Sl q (.slice b1 m1 d1) w) (KE : Hid (∀ W : World,Below w.heap.size w W → Calls Tryz.prog 66 #[.slice a3 n3 c3,.slice b3 m3 d3,.func (.func 42) #[] #[]] W fun e w' => e = .returned (.bool R) ∧ Below W.heap.size W w')) :
  Calls Tryz.prog 42 #[.agg #[.int .i64 2,.slice a1 n1 c1,.slice a2 n2 c2,.slice a3 n3 c3],.agg #[.int .i64 2,.slice b1 m1 d1,.slice b2 m2 d2,.slice b3 m3 d3]] w fun e w' => e = .returned (.bool (decide (p = q) && R)) ∧ Below w.heap.size w w' := by
 have B1 : Below w.heap.size w ((w.alloc (.cells #[.int .i64 2,.slice a1 n1 c1,.slice a2 n2 c2,.slice a3 n3 c3] 25)).alloc (.cells #[.int .i64 2,.slice b1 m1 d1,.slice b2 m2 d2,.slice b3 m3 d3] 25)) := ((Below.refl _ _).alloc (Nat.le_refl _) _).alloc (by simp) _; have B : Hid (Below w.heap.size w ((w.alloc (.cells #[.int .i64 2,.slice a1 n1 c1,.slice a2 n2 c2,.slice a3 n3 c3] 25)).alloc (.cells #[.int .i64 2,.slice b1 m1 d1,.slice b2 m2 d2,.slice b3 m3 d3] 25))) := B1; have x1 := Sl_st (Pk.Sl_below hp B1); have x3 := Sl_st (Pk.Sl_below hq B1); have KK : Hid _ := KE.out _ B1; clear B1 hp hq KE; by_cases h1 : p = q
 ·subst h1; rw [decide_eq_true rfl,Bool.true_and]; generalize st p = X at *; go_enter Tryz.func42,Tryz.ntmps42
  go_wp2_with fail
  refine Calls.mono KK.out (fun e w2 he => ?_)
  obtain ⟨rfl,b2⟩ := he; have B2 : Hid _ := B.out.trans (b2.mono B.out.size); clear b2 KK; go_wp2_with fail
  go_ret
  exact ⟨rfl,B2.out⟩
 ·have hne : ((st p).toList == (st q).toList) = false := by rw [st_list,st_list]; exact beq_eq_false_iff_ne.2 h1
  have hne2 : ¬ (st p).toList = (st q).toList := by rw [st_list,st_list]; exact h1
  rw [decide_eq_false h1,Bool.false_and]; generalize st p = X at *; generalize st q = Z at *; clear KK; go_enter Tryz.func42,Tryz.ntmps42
  go_wp2_with fail
  go_ret
  exact ⟨by first | rfl | simp [hne] | simp [hne2],B.out⟩
theorem same_fork (a1 a2 a3 b1 b2 b3 : Option Addr) (n1 c1 n2 c2 n3 c3 m1 d1 m2 d2 m3 d3 : Nat) (w : World) (p q : By) (R : Bool) (hp : Pk.Sl p (.slice a2 n2 c2) w) (hq : Pk.Sl q (.slice b2 m2 d2) w) (KE : Hid (∀ W : World,Below w.heap.size w W → Calls Tryz.prog 66 #[.slice a3 n3 c3,.slice b3 m3 d3,.func (.func 42) #[] #[]] W fun e w' => e = .returned (.bool R) ∧ Below W.heap.size W w')) :
  Calls Tryz.prog 42 #[.agg #[.int .i64 3,.slice a1 n1 c1,.slice a2 n2 c2,.slice a3 n3 c3],.agg #[.int .i64 3,.slice b1 m1 d1,.slice b2 m2 d2,.slice b3 m3 d3]] w fun e w' => e = .returned (.bool (decide (p = q) && R)) ∧ Below w.heap.size w w' := by
 have B1 : Below w.heap.size w ((w.alloc (.cells #[.int .i64 3,.slice a1 n1 c1,.slice a2 n2 c2,.slice a3 n3 c3] 25)).alloc (.cells #[.int .i64 3,.slice b1 m1 d1,.slice b2 m2 d2,.slice b3 m3 d3] 25)) := ((Below.refl _ _).alloc (Nat.le_refl _) _).alloc (by simp) _; have B : Hid (Below w.heap.size w ((w.alloc (.cells #[.int .i64 3,.slice a1 n1 c1,.slice a2 n2 c2,.slice a3 n3 c3] 25)).alloc (.cells #[.int .i64 3,.slice b1 m1 d1,.slice b2 m2 d2,.slice b3 m3 d3] 25))) := B1; have x1 := Sl_st (Pk.Sl_below hp B1); have x3 := Sl_st (Pk.Sl_below hq B1); have KK : Hid _ := KE.out _ B1; clear B1 hp hq KE; by_cases h1 : p = q
 ·subst h1; rw [decide_eq_true rfl,Bool.true_and]; generalize st p = X at *; go_enter Tryz.func42,Tryz.ntmps42
  go_wp2_with fail
  refine Calls.mono KK.out (fun e w2 he => ?_)
  obtain ⟨rfl,b2⟩ := he; have B2 : Hid _ := B.out.trans (b2.mono B.out.size); clear b2 KK; go_wp2_with fail
  go_ret
  exact ⟨rfl,B2.out⟩
 ·have hne : ((st p).toList == (st q).toList) = false := by rw [st_list,st_list]; exact beq_eq_false_iff_ne.2 h1
  have hne2 : ¬ (st p).toList = (st q).toList := by rw [st_list,st_list]; exact h1
  rw [decide_eq_false h1,Bool.false_and]; generalize st p = X at *; generalize st q = Z at *; clear KK; go_enter Tryz.func42,Tryz.ntmps42
  go_wp2_with fail
  go_ret
  exact ⟨by first | rfl | simp [hne] | simp [hne2],B.out⟩
inductive Sm : Nd → Prop where
 | mk (k : Int) (p v : By) (ks : List Nd) (hk : ks.length ≤ 4194304) (h : ∀ j,j < ks.length → Sm (ks.getD j Nd.no)) : Sm (.mk k p v ks)
theorem same_any {t : Nd} (hs : Sm t) : ∀ (s : Nd) (S T : Nat → Prop) (v u : V4) (w : World),Nv S w t v → Nv T w s u → Calls Tryz.prog 42 #[v4 v,v4 u] w fun e w' => e = .returned (.bool (sn t s)) ∧ Below w.heap.size w w' := by
 induction hs with
 | mk k p v ks hk _ ih =>
  intro s S T x y w hx hy; cases hx with
  | mk _ _ _ _ pv vv kv vs hp hv hl hkk hi =>
   cases hy with
   | mk k2 p2 v2 ks2 pv2 vv2 kv2 vs2 hp2 hv2 hl2 hkk2 hi2 =>
    have sp := Bs_sl hp; have sv := Bs_sl hv; have sp2 := Bs_sl hp2; have sv2 := Bs_sl hv2; obtain ⟨a1,c1,rfl,-,-⟩ := hp; obtain ⟨a2,c2,rfl,-,-⟩ := hv; obtain ⟨b1,d1,rfl,-,-⟩ := hp2; obtain ⟨b2,d2,rfl,-,-⟩ := hv2; have hkA := hkk; have hkB := hkk2; obtain ⟨a3,c3,rfl,-,-⟩ := hkk; obtain ⟨b3,d3,rfl,-,-⟩ := hkk2; show Calls Tryz.prog 42 #[.agg #[.int .i64 k,_,_,_],.agg #[.int .i64 k2,_,_,_]] w _
    unfold sn
    by_cases hkk : k = k2
    ·subst hkk; rw [decide_eq_true rfl,Bool.true_and]; have KE : ∀ W : World,Below w.heap.size w W → Calls Tryz.prog 66 #[.slice a3 vs.length c3,.slice b3 vs2.length d3,.func (.func 42) #[] #[]] W fun e w' => e = .returned (.bool (sns ks ks2)) ∧ Below W.heap.size W w' := fun W hW => by
      by_cases hlen : ks.length = ks2.length
      ·have e : vs2.length = vs.length := by omega
       rw [e] at hkB ⊢; exact eqf_any S T ks ks2 vs vs2 a3 b3 vs.length c3 d3 W hl (by show _ = _; omega) hl (by show _ = _; omega) (Ks_below hkA hW) (Ks_below hkB hW) (fun j hj => Nv_below (hi j hj) hW) (fun j hj => Nv_below (hi2 j hj) hW) (fun j hj v u w h1 h2 => ih j hj _ S T v u w h1 h2) (by show _ ≤ _; omega)
      ·rw [sns_len ks ks2 hlen]; exact eqf_len a3 b3 _ _ _ _ W (by omega)
     by_cases h1 : k = 1
     ·subst h1; rw [if_pos rfl]; exact same_leaf a1 a2 a3 b1 b2 b3 _ c1 _ c2 _ c3 _ d1 _ d2 _ d3 w p v p2 v2 sp sv sp2 sv2
     by_cases h2 : k = 2
     ·subst h2; rw [if_neg h1,if_pos rfl]; exact same_road a1 a2 a3 b1 b2 b3 _ c1 _ c2 _ c3 _ d1 _ d2 _ d3 w p p2 _ sp sp2 KE
     by_cases h3 : k = 3
     ·subst h3; rw [if_neg h1,if_neg h2,if_pos rfl]; exact same_fork a1 a2 a3 b1 b2 b3 _ c1 _ c2 _ c3 _ d1 _ d2 _ d3 w v v2 _ sv sv2 KE
     ·rw [if_neg h1,if_neg h2,if_neg h3]; exact same_other a1 a2 a3 b1 b2 b3 _ c1 _ c2 _ c3 _ d1 _ d2 _ d3 w k h1 h2 h3
    ·rw [decide_eq_false hkk,Bool.false_and]; exact same_kind a1 a2 a3 b1 b2 b3 _ c1 _ c2 _ c3 _ d1 _ d2 _ d3 w k k2 hkk
end Tr
end Go.Proofs.YtlbdaccmnpcccaaGreatDoor
namespace Go.Proofs.YtlbdaccmnpcccaaGreatDoor
namespace Tr
open Nb Go.RowKit
theorem pt_bz {p : By} (h : Pt p) (j : Nat) (hj : j < p.length) : Sp.bz p j < 16 := by
 have := h (p.getD j 0) (by rw [List.getD_eq_getElem?_getD,List.getElem?_eq_getElem hj]; exact List.getElem_mem hj)
 show (((p.getD j 0).toNat : Nat) : Int) < 16
 omega
theorem not_pt {p : By} (h : ¬ Pt p) : ∃ i,i < p.length ∧ (16 : Int) ≤ Sp.bz p i ∧ ∀ j,j < i → Sp.bz p j < 16 := by
 induction p with
 | nil => exact absurd pt_nil h
 | cons c p ih =>
  by_cases hc : c.toNat < 16
  ·obtain ⟨i,h1,h2,h3⟩ := ih (fun hp => h (pt_cons.2 ⟨hc,hp⟩))
   refine ⟨i + 1,by simpa using h1,h2,fun j hj => ?_⟩
   cases j with
   | zero => show ((c.toNat : Nat) : Int) < 16; omega
   | succ j => exact h3 j (by omega)
  ·exact ⟨0,by simp,by show (16 : Int) ≤ ((c.toNat : Nat) : Int); omega,fun j hj => absurd hj (by omega)⟩
theorem rt_zero (a1 a2 a3 : Option Addr) (n1 c1 n2 c2 n3 c3 : Nat) (P : By) (w : World) (p : By) (hz : Hid (n1 ≤ 4194304)) (hp : Hid (Pk.Sl p (.slice a1 n1 c1) w)) :
  Calls Tryz.prog 41 #[.agg #[.int .i64 0,.slice a1 n1 c1,.slice a2 n2 c2,.slice a3 n3 c3],.string (st P)] w fun e w' => e = .returned (.tuple #[.slice none 0 0,.bool true]) ∧ Below w.heap.size w w' := by
 have B0 : Below w.heap.size w (w.alloc (.cells #[.int .i64 0,.slice a1 n1 c1,.slice a2 n2 c2,.slice a3 n3 c3] 25)) := (Below.refl _ _).alloc (Nat.le_refl _) _; have HA := heap_alloc_new w (.cells #[.int .i64 0,.slice a1 n1 c1,.slice a2 n2 c2,.slice a3 n3 c3] 25); have q0 : (w.alloc (.cells #[.int .i64 0,.slice a1 n1 c1,.slice a2 n2 c2,.slice a3 n3 c3] 25)).cell? ⟨w.heap.size,0,none⟩ = some (.int .i64 0) := by simp only [World.cell?,HA]; rfl
 have q1 : (w.alloc (.cells #[.int .i64 0,.slice a1 n1 c1,.slice a2 n2 c2,.slice a3 n3 c3] 25)).cell? ⟨w.heap.size,1,none⟩ = some (.slice a1 n1 c1) := by simp only [World.cell?,HA]; rfl
 have q2 : (w.alloc (.cells #[.int .i64 0,.slice a1 n1 c1,.slice a2 n2 c2,.slice a3 n3 c3] 25)).cell? ⟨w.heap.size,2,none⟩ = some (.slice a2 n2 c2) := by simp only [World.cell?,HA]; rfl
 have q3 : (w.alloc (.cells #[.int .i64 0,.slice a1 n1 c1,.slice a2 n2 c2,.slice a3 n3 c3] 25)).cell? ⟨w.heap.size,3,none⟩ = some (.slice a3 n3 c3) := by simp only [World.cell?,HA]; rfl
 have hh : w.heap.size < (w.alloc (.cells #[.int .i64 0,.slice a1 n1 c1,.slice a2 n2 c2,.slice a3 n3 c3] 25)).heap.size := by simp
 have SP : Hid (Pk.Sl p (.slice a1 n1 c1) (w.alloc (.cells #[.int .i64 0,.slice a1 n1 c1,.slice a2 n2 c2,.slice a3 n3 c3] 25))) := Pk.Sl_below hp.out B0; clear HA; go_enter Tryz.func41,Tryz.ntmps41
 go_wp2_with fail
 generalize (w.alloc (.cells #[.int .i64 0,.slice a1 n1 c1,.slice a2 n2 c2,.slice a3 n3 c3] 25)) = W0 at *; generalize hg0 : w.heap.size = g0 at *; go_loopw [16] (fun i wr => ∃ j : Nat,j ≤ n1 ∧ i = .int .i64 (j : Int) ∧ wr = W0) (fun i _ => ((n1 : Int) - intOf i).toNat)
 case atStart => exact ⟨0,Nat.zero_le _,rfl,rfl⟩
 case round =>
  obtain ⟨j,hj,rfl,rfl⟩ := hrel; by_cases hlt : j < n1
  ·have d0 : decide ((j : Int) < (n1 : Int)) = true := decide_eq_true (by omega); have d1 : (0 : Int) ≤ (j : Int) := by omega
   have d2 : (j : Int) < (n1 : Int) := by omega
   obtain ⟨ao,cap,e2,-,hq⟩ := SP.out; injection e2 with e2 e3 e4
   subst e2; obtain ⟨gp,off,rfl,hgp,hcell⟩ := hq (by omega); have x0 := hcell j (by omega); have e5 : Hid (wrap64 ((j : Int) + 1) = ((j + 1 : Nat) : Int)) := by have := hz.out; show _ = _; unfold wrap64; omega
   clear hq hcell e3 e4; go_wp2_with fail
   rw [e5.out]; exact ⟨⟨j + 1,by omega,rfl,by trivial⟩,msr_up j n1 hlt⟩
  ·have d0 : decide ((j : Int) < (n1 : Int)) = false := decide_eq_false (by omega); have BF : Hid (Below w.heap.size w wr) := hg0 ▸ B0; go_wp2_with fail
   go_ret2
   exact ⟨rfl,BF.out⟩
theorem rt_other (a1 a2 a3 : Option Addr) (n1 c1 n2 c2 n3 c3 : Nat) (P : By) (w : World) (p : By) (hz : Hid (n1 ≤ 4194304)) (hp : Hid (Pk.Sl p (.slice a1 n1 c1) w)) (k : Int) (k0 : k ≠ 0) (k1 : k ≠ 1) (k2 : k ≠ 2) (k3 : k ≠ 3) :
  Calls Tryz.prog 41 #[.agg #[.int .i64 k,.slice a1 n1 c1,.slice a2 n2 c2,.slice a3 n3 c3],.string (st P)] w fun e w' => e = .returned (.tuple #[.slice none 0 0,.bool false]) ∧ Below w.heap.size w w' := by
 have f0 : (k == 0) = false := beq_eq_false_iff_ne.2 k0; have f1 : (k == 1) = false := beq_eq_false_iff_ne.2 k1; have f2 : (k == 2) = false := beq_eq_false_iff_ne.2 k2; have f3 : (k == 3) = false := beq_eq_false_iff_ne.2 k3; clear k0 k1 k2 k3; have B0 : Below w.heap.size w (w.alloc (.cells #[.int .i64 k,.slice a1 n1 c1,.slice a2 n2 c2,.slice a3 n3 c3] 25)) := (Below.refl _ _).alloc (Nat.le_refl _) _; have HA := heap_alloc_new w (.cells #[.int .i64 k,.slice a1 n1 c1,.slice a2 n2 c2,.slice a3 n3 c3] 25); have q0 : (w.alloc (.cells #[.int .i64 k,.slice a1 n1 c1,.slice a2 n2 c2,.slice a3 n3 c3] 25)).cell? ⟨w.heap.size,0,none⟩ = some (.int .i64 k) := by simp only [World.cell?,HA]; rfl
 have q1 : (w.alloc (.cells #[.int .i64 k,.slice a1 n1 c1,.slice a2 n2 c2,.slice a3 n3 c3] 25)).cell? ⟨w.heap.size,1,none⟩ = some (.slice a1 n1 c1) := by simp only [World.cell?,HA]; rfl
 have q2 : (w.alloc (.cells #[.int .i64 k,.slice a1 n1 c1,.slice a2 n2 c2,.slice a3 n3 c3] 25)).cell? ⟨w.heap.size,2,none⟩ = some (.slice a2 n2 c2) := by simp only [World.cell?,HA]; rfl
 have q3 : (w.alloc (.cells #[.int .i64 k,.slice a1 n1 c1,.slice a2 n2 c2,.slice a3 n3 c3] 25)).cell? ⟨w.heap.size,3,none⟩ = some (.slice a3 n3 c3) := by simp only [World.cell?,HA]; rfl
 have hh : w.heap.size < (w.alloc (.cells #[.int .i64 k,.slice a1 n1 c1,.slice a2 n2 c2,.slice a3 n3 c3] 25)).heap.size := by simp
 have SP : Hid (Pk.Sl p (.slice a1 n1 c1) (w.alloc (.cells #[.int .i64 k,.slice a1 n1 c1,.slice a2 n2 c2,.slice a3 n3 c3] 25))) := Pk.Sl_below hp.out B0; clear HA; go_enter Tryz.func41,Tryz.ntmps41
 go_wp2_with fail
 generalize (w.alloc (.cells #[.int .i64 k,.slice a1 n1 c1,.slice a2 n2 c2,.slice a3 n3 c3] 25)) = W0 at *; generalize hg0 : w.heap.size = g0 at *; go_loopw [16] (fun i wr => ∃ j : Nat,j ≤ n1 ∧ i = .int .i64 (j : Int) ∧ wr = W0) (fun i _ => ((n1 : Int) - intOf i).toNat)
 case atStart => exact ⟨0,Nat.zero_le _,rfl,rfl⟩
 case round =>
  obtain ⟨j,hj,rfl,rfl⟩ := hrel; by_cases hlt : j < n1
  ·have d0 : decide ((j : Int) < (n1 : Int)) = true := decide_eq_true (by omega); have d1 : (0 : Int) ≤ (j : Int) := by omega
   have d2 : (j : Int) < (n1 : Int) := by omega
   obtain ⟨ao,cap,e2,-,hq⟩ := SP.out; injection e2 with e2 e3 e4
   subst e2; obtain ⟨gp,off,rfl,hgp,hcell⟩ := hq (by omega); have x0 := hcell j (by omega); have e5 : Hid (wrap64 ((j : Int) + 1) = ((j + 1 : Nat) : Int)) := by have := hz.out; show _ = _; unfold wrap64; omega
   clear hq hcell e3 e4; go_wp2_with fail
   rw [e5.out]; exact ⟨⟨j + 1,by omega,rfl,by trivial⟩,msr_up j n1 hlt⟩
  ·have d0 : decide ((j : Int) < (n1 : Int)) = false := decide_eq_false (by omega); have BF : Hid (Below w.heap.size w wr) := hg0 ▸ B0; go_wp2_with fail
   go_ret2
   exact ⟨rfl,BF.out⟩
theorem rt_fork_no (a1 a2 a3 : Option Addr) (n1 c1 n2 c2 n3 c3 : Nat) (P : By) (w : World) (p : By) (hz : Hid (n1 ≤ 4194304)) (hp : Hid (Pk.Sl p (.slice a1 n1 c1) w)) (hl : n3 ≠ 16) :
  Calls Tryz.prog 41 #[.agg #[.int .i64 3,.slice a1 n1 c1,.slice a2 n2 c2,.slice a3 n3 c3],.string (st P)] w fun e w' => e = .returned (.tuple #[.slice none 0 0,.bool false]) ∧ Below w.heap.size w w' := by
 have f9 : ((n3 : Int) == 16) = false := beq_eq_false_iff_ne.2 (by omega); have B0 : Below w.heap.size w (w.alloc (.cells #[.int .i64 3,.slice a1 n1 c1,.slice a2 n2 c2,.slice a3 n3 c3] 25)) := (Below.refl _ _).alloc (Nat.le_refl _) _; have HA := heap_alloc_new w (.cells #[.int .i64 3,.slice a1 n1 c1,.slice a2 n2 c2,.slice a3 n3 c3] 25); have q0 : (w.alloc (.cells #[.int .i64 3,.slice a1 n1 c1,.slice a2 n2 c2,.slice a3 n3 c3] 25)).cell? ⟨w.heap.size,0,none⟩ = some (.int .i64 3) := by simp only [World.cell?,HA]; rfl
 have q1 : (w.alloc (.cells #[.int .i64 3,.slice a1 n1 c1,.slice a2 n2 c2,.slice a3 n3 c3] 25)).cell? ⟨w.heap.size,1,none⟩ = some (.slice a1 n1 c1) := by simp only [World.cell?,HA]; rfl
 have q2 : (w.alloc (.cells #[.int .i64 3,.slice a1 n1 c1,.slice a2 n2 c2,.slice a3 n3 c3] 25)).cell? ⟨w.heap.size,2,none⟩ = some (.slice a2 n2 c2) := by simp only [World.cell?,HA]; rfl
 have q3 : (w.alloc (.cells #[.int .i64 3,.slice a1 n1 c1,.slice a2 n2 c2,.slice a3 n3 c3] 25)).cell? ⟨w.heap.size,3,none⟩ = some (.slice a3 n3 c3) := by simp only [World.cell?,HA]; rfl
 have hh : w.heap.size < (w.alloc (.cells #[.int .i64 3,.slice a1 n1 c1,.slice a2 n2 c2,.slice a3 n3 c3] 25)).heap.size := by simp
 have SP : Hid (Pk.Sl p (.slice a1 n1 c1) (w.alloc (.cells #[.int .i64 3,.slice a1 n1 c1,.slice a2 n2 c2,.slice a3 n3 c3] 25))) := Pk.Sl_below hp.out B0; clear HA; go_enter Tryz.func41,Tryz.ntmps41
 go_wp2_with fail
 generalize (w.alloc (.cells #[.int .i64 3,.slice a1 n1 c1,.slice a2 n2 c2,.slice a3 n3 c3] 25)) = W0 at *; generalize hg0 : w.heap.size = g0 at *; go_loopw [16] (fun i wr => ∃ j : Nat,j ≤ n1 ∧ i = .int .i64 (j : Int) ∧ wr = W0) (fun i _ => ((n1 : Int) - intOf i).toNat)
 case atStart => exact ⟨0,Nat.zero_le _,rfl,rfl⟩
 case round =>
  obtain ⟨j,hj,rfl,rfl⟩ := hrel; by_cases hlt : j < n1
  ·have d0 : decide ((j : Int) < (n1 : Int)) = true := decide_eq_true (by omega); have d1 : (0 : Int) ≤ (j : Int) := by omega
   have d2 : (j : Int) < (n1 : Int) := by omega
   obtain ⟨ao,cap,e2,-,hq⟩ := SP.out; injection e2 with e2 e3 e4
   subst e2; obtain ⟨gp,off,rfl,hgp,hcell⟩ := hq (by omega); have x0 := hcell j (by omega); have e5 : Hid (wrap64 ((j : Int) + 1) = ((j + 1 : Nat) : Int)) := by have := hz.out; show _ = _; unfold wrap64; omega
   clear hq hcell e3 e4; go_wp2_with fail
   rw [e5.out]; exact ⟨⟨j + 1,by omega,rfl,by trivial⟩,msr_up j n1 hlt⟩
  ·have d0 : decide ((j : Int) < (n1 : Int)) = false := decide_eq_false (by omega); have BF : Hid (Below w.heap.size w wr) := hg0 ▸ B0; go_wp2_with fail
   go_ret2
   exact ⟨rfl,BF.out⟩
theorem rt_road_no (a1 a2 a3 : Option Addr) (n1 c1 n2 c2 n3 c3 : Nat) (P : By) (w : World) (p : By) (hz : Hid (n1 ≤ 4194304)) (hp : Hid (Pk.Sl p (.slice a1 n1 c1) w)) (HP : Hid (∀ j,j < n1 → Sp.bz p j < 16)) (hl : n3 ≠ 1) :
  Calls Tryz.prog 41 #[.agg #[.int .i64 2,.slice a1 n1 c1,.slice a2 n2 c2,.slice a3 n3 c3],.string (st P)] w fun e w' => e = .returned (.tuple #[.slice none 0 0,.bool false]) ∧ Below w.heap.size w w' := by
 have f9 : ((n3 : Int) == 1) = false := beq_eq_false_iff_ne.2 (by omega); have B0 : Below w.heap.size w (w.alloc (.cells #[.int .i64 2,.slice a1 n1 c1,.slice a2 n2 c2,.slice a3 n3 c3] 25)) := (Below.refl _ _).alloc (Nat.le_refl _) _; have HA := heap_alloc_new w (.cells #[.int .i64 2,.slice a1 n1 c1,.slice a2 n2 c2,.slice a3 n3 c3] 25); have q0 : (w.alloc (.cells #[.int .i64 2,.slice a1 n1 c1,.slice a2 n2 c2,.slice a3 n3 c3] 25)).cell? ⟨w.heap.size,0,none⟩ = some (.int .i64 2) := by simp only [World.cell?,HA]; rfl
 have q1 : (w.alloc (.cells #[.int .i64 2,.slice a1 n1 c1,.slice a2 n2 c2,.slice a3 n3 c3] 25)).cell? ⟨w.heap.size,1,none⟩ = some (.slice a1 n1 c1) := by simp only [World.cell?,HA]; rfl
 have q2 : (w.alloc (.cells #[.int .i64 2,.slice a1 n1 c1,.slice a2 n2 c2,.slice a3 n3 c3] 25)).cell? ⟨w.heap.size,2,none⟩ = some (.slice a2 n2 c2) := by simp only [World.cell?,HA]; rfl
 have q3 : (w.alloc (.cells #[.int .i64 2,.slice a1 n1 c1,.slice a2 n2 c2,.slice a3 n3 c3] 25)).cell? ⟨w.heap.size,3,none⟩ = some (.slice a3 n3 c3) := by simp only [World.cell?,HA]; rfl
 have hh : w.heap.size < (w.alloc (.cells #[.int .i64 2,.slice a1 n1 c1,.slice a2 n2 c2,.slice a3 n3 c3] 25)).heap.size := by simp
 have SP : Hid (Pk.Sl p (.slice a1 n1 c1) (w.alloc (.cells #[.int .i64 2,.slice a1 n1 c1,.slice a2 n2 c2,.slice a3 n3 c3] 25))) := Pk.Sl_below hp.out B0; clear HA; go_enter Tryz.func41,Tryz.ntmps41
 go_wp2_with fail
 generalize (w.alloc (.cells #[.int .i64 2,.slice a1 n1 c1,.slice a2 n2 c2,.slice a3 n3 c3] 25)) = W0 at *; generalize hg0 : w.heap.size = g0 at *; go_loopw [16] (fun i wr => ∃ j : Nat,j ≤ n1 ∧ i = .int .i64 (j : Int) ∧ wr = W0) (fun i _ => ((n1 : Int) - intOf i).toNat)
 case atStart => exact ⟨0,Nat.zero_le _,rfl,rfl⟩
 case round =>
  obtain ⟨j,hj,rfl,rfl⟩ := hrel; by_cases hlt : j < n1
  ·have d0 : decide ((j : Int) < (n1 : Int)) = true := decide_eq_true (by omega); have d1 : (0 : Int) ≤ (j : Int) := by omega
   have d2 : (j : Int) < (n1 : Int) := by omega
   obtain ⟨ao,cap,e2,-,hq⟩ := SP.out; injection e2 with e2 e3 e4
   subst e2; obtain ⟨gp,off,rfl,hgp,hcell⟩ := hq (by omega); have x0 := hcell j (by omega); have e5 : Hid (wrap64 ((j : Int) + 1) = ((j + 1 : Nat) : Int)) := by have := hz.out; show _ = _; unfold wrap64; omega
   have hx : Sp.bz p j < 16 := HP.out j (by omega); have t0 : decide ((15 : Int) < Sp.bz p j) = false := decide_eq_false (by omega); have t1 : ¬ (15 : Int) < Sp.bz p j := by omega
   generalize Sp.bz p j = y at *; clear hq hcell e3 e4; go_wp2_with fail
   rw [e5.out]; exact ⟨⟨j + 1,by omega,rfl,by trivial⟩,msr_up j n1 hlt⟩
  ·have d0 : decide ((j : Int) < (n1 : Int)) = false := decide_eq_false (by omega); have BF : Hid (Below w.heap.size w wr) := hg0 ▸ B0; go_wp2_with fail
   go_ret2
   exact ⟨rfl,BF.out⟩
theorem rt_leaf (a1 a2 a3 : Option Addr) (n1 c1 n2 c2 n3 c3 : Nat) (P : By) (w : World) (p : By) (hz : Hid (n1 ≤ 4194304)) (hp : Hid (Pk.Sl p (.slice a1 n1 c1) w)) (HP : Hid (∀ j,j < n1 → Sp.bz p j < 16)) (hn : Hid (n1 = p.length)) (v : By) (hv : Hid (Pk.Sl v (.slice a2 n2 c2) w)) (hP : P.length ≤ 4194304) :
  Calls Tryz.prog 41 #[.agg #[.int .i64 1,.slice a1 n1 c1,.slice a2 n2 c2,.slice a3 n3 c3],.string (st P)] w fun e w' => (∃ x,e = .returned (.tuple #[x,.bool true]) ∧ Rv [(P ++ p,v)] x w') ∧ Below w.heap.size w w' := by
 have B0 : Below w.heap.size w (w.alloc (.cells #[.int .i64 1,.slice a1 n1 c1,.slice a2 n2 c2,.slice a3 n3 c3] 25)) := (Below.refl _ _).alloc (Nat.le_refl _) _; have HA := heap_alloc_new w (.cells #[.int .i64 1,.slice a1 n1 c1,.slice a2 n2 c2,.slice a3 n3 c3] 25); have q0 : (w.alloc (.cells #[.int .i64 1,.slice a1 n1 c1,.slice a2 n2 c2,.slice a3 n3 c3] 25)).cell? ⟨w.heap.size,0,none⟩ = some (.int .i64 1) := by simp only [World.cell?,HA]; rfl
 have q1 : (w.alloc (.cells #[.int .i64 1,.slice a1 n1 c1,.slice a2 n2 c2,.slice a3 n3 c3] 25)).cell? ⟨w.heap.size,1,none⟩ = some (.slice a1 n1 c1) := by simp only [World.cell?,HA]; rfl
 have q2 : (w.alloc (.cells #[.int .i64 1,.slice a1 n1 c1,.slice a2 n2 c2,.slice a3 n3 c3] 25)).cell? ⟨w.heap.size,2,none⟩ = some (.slice a2 n2 c2) := by simp only [World.cell?,HA]; rfl
 have q3 : (w.alloc (.cells #[.int .i64 1,.slice a1 n1 c1,.slice a2 n2 c2,.slice a3 n3 c3] 25)).cell? ⟨w.heap.size,3,none⟩ = some (.slice a3 n3 c3) := by simp only [World.cell?,HA]; rfl
 have hh : w.heap.size < (w.alloc (.cells #[.int .i64 1,.slice a1 n1 c1,.slice a2 n2 c2,.slice a3 n3 c3] 25)).heap.size := by simp
 have SP : Hid (Pk.Sl p (.slice a1 n1 c1) (w.alloc (.cells #[.int .i64 1,.slice a1 n1 c1,.slice a2 n2 c2,.slice a3 n3 c3] 25))) := Pk.Sl_below hp.out B0; clear HA; have SV : Hid (Pk.Sl v (.slice a2 n2 c2) (w.alloc (.cells #[.int .i64 1,.slice a1 n1 c1,.slice a2 n2 c2,.slice a3 n3 c3] 25))) := Pk.Sl_below hv.out B0; have HC : Hid (∀ W : World,(Op.stringOp .add (st P) (st p)).run Tryz.prog W = .ok (.string (st (P ++ p))) W) := fun W => cat_st P p (by have := hn.out; have := hz.out; omega) W
 go_enter Tryz.func41,Tryz.ntmps41
 go_wp2_with fail
 generalize (w.alloc (.cells #[.int .i64 1,.slice a1 n1 c1,.slice a2 n2 c2,.slice a3 n3 c3] 25)) = W0 at *; generalize hg0 : w.heap.size = g0 at *; go_loopw [16] (fun i wr => ∃ j : Nat,j ≤ n1 ∧ i = .int .i64 (j : Int) ∧ wr = W0) (fun i _ => ((n1 : Int) - intOf i).toNat)
 case atStart => exact ⟨0,Nat.zero_le _,rfl,rfl⟩
 case round =>
  obtain ⟨j,hj,rfl,rfl⟩ := hrel; by_cases hlt : j < n1
  ·have d0 : decide ((j : Int) < (n1 : Int)) = true := decide_eq_true (by omega); have d1 : (0 : Int) ≤ (j : Int) := by omega
   have d2 : (j : Int) < (n1 : Int) := by omega
   obtain ⟨ao,cap,e2,-,hq⟩ := SP.out; injection e2 with e2 e3 e4
   subst e2; obtain ⟨gp,off,rfl,hgp,hcell⟩ := hq (by omega); have x0 := hcell j (by omega); have e5 : Hid (wrap64 ((j : Int) + 1) = ((j + 1 : Nat) : Int)) := by have := hz.out; show _ = _; unfold wrap64; omega
   have hx : Sp.bz p j < 16 := HP.out j (by omega); have t0 : decide ((15 : Int) < Sp.bz p j) = false := decide_eq_false (by omega); have t1 : ¬ (15 : Int) < Sp.bz p j := by omega
   generalize Sp.bz p j = y at *; clear hq hcell e3 e4; go_wp2_with fail
   rw [e5.out]; exact ⟨⟨j + 1,by omega,rfl,by trivial⟩,msr_up j n1 hlt⟩
  ·have d0 : decide ((j : Int) < (n1 : Int)) = false := decide_eq_false (by omega); have BF : Hid (Below w.heap.size w (wr.alloc (.cells #[.string (st (P ++ p)),.string (st v)] 90))) := by
    show Below _ _ _
    rw [hg0]; exact B0.trans (((Below.refl _ _).alloc (Nat.le_refl _) _).mono (by omega))
   have x1 := Sl_st SP.out; have x2 := Sl_st SV.out; have x3 := HC.out wr; have HR : Hid (Rv [(P ++ p,v)] (.slice (some ⟨wr.heap.size,0,none⟩) 1 1) (wr.alloc (.cells #[.string (st (P ++ p)),.string (st v)] 90))) := lit_rv (P ++ p,v) wr; generalize st (P ++ p) = X at *; generalize st p = Y at *; generalize st v = Z at *; go_wp2_with fail
   go_ret2
   exact ⟨⟨_,rfl,HR.out⟩,BF.out⟩
theorem rt_leaf_no (a1 a2 a3 : Option Addr) (n1 c1 n2 c2 n3 c3 : Nat) (P : By) (w : World) (p : By) (hz : Hid (n1 ≤ 4194304)) (hp : Hid (Pk.Sl p (.slice a1 n1 c1) w)) (i0 : Nat) (hi0 : i0 < n1) (HB : Hid ((16 : Int) ≤ Sp.bz p i0 ∧ ∀ j,j < i0 → Sp.bz p j < 16)) :
  Calls Tryz.prog 41 #[.agg #[.int .i64 1,.slice a1 n1 c1,.slice a2 n2 c2,.slice a3 n3 c3],.string (st P)] w fun e w' => e = .returned (.tuple #[.slice none 0 0,.bool false]) ∧ Below w.heap.size w w' := by
 have B0 : Below w.heap.size w (w.alloc (.cells #[.int .i64 1,.slice a1 n1 c1,.slice a2 n2 c2,.slice a3 n3 c3] 25)) := (Below.refl _ _).alloc (Nat.le_refl _) _; have HA := heap_alloc_new w (.cells #[.int .i64 1,.slice a1 n1 c1,.slice a2 n2 c2,.slice a3 n3 c3] 25); have q0 : (w.alloc (.cells #[.int .i64 1,.slice a1 n1 c1,.slice a2 n2 c2,.slice a3 n3 c3] 25)).cell? ⟨w.heap.size,0,none⟩ = some (.int .i64 1) := by simp only [World.cell?,HA]; rfl
 have q1 : (w.alloc (.cells #[.int .i64 1,.slice a1 n1 c1,.slice a2 n2 c2,.slice a3 n3 c3] 25)).cell? ⟨w.heap.size,1,none⟩ = some (.slice a1 n1 c1) := by simp only [World.cell?,HA]; rfl
 have q2 : (w.alloc (.cells #[.int .i64 1,.slice a1 n1 c1,.slice a2 n2 c2,.slice a3 n3 c3] 25)).cell? ⟨w.heap.size,2,none⟩ = some (.slice a2 n2 c2) := by simp only [World.cell?,HA]; rfl
 have q3 : (w.alloc (.cells #[.int .i64 1,.slice a1 n1 c1,.slice a2 n2 c2,.slice a3 n3 c3] 25)).cell? ⟨w.heap.size,3,none⟩ = some (.slice a3 n3 c3) := by simp only [World.cell?,HA]; rfl
 have hh : w.heap.size < (w.alloc (.cells #[.int .i64 1,.slice a1 n1 c1,.slice a2 n2 c2,.slice a3 n3 c3] 25)).heap.size := by simp
 have SP : Hid (Pk.Sl p (.slice a1 n1 c1) (w.alloc (.cells #[.int .i64 1,.slice a1 n1 c1,.slice a2 n2 c2,.slice a3 n3 c3] 25))) := Pk.Sl_below hp.out B0; clear HA; go_enter Tryz.func41,Tryz.ntmps41
 go_wp2_with fail
 generalize (w.alloc (.cells #[.int .i64 1,.slice a1 n1 c1,.slice a2 n2 c2,.slice a3 n3 c3] 25)) = W0 at *; generalize hg0 : w.heap.size = g0 at *; go_loopw [16] (fun i wr => ∃ j : Nat,j ≤ i0 ∧ i = .int .i64 (j : Int) ∧ wr = W0) (fun i _ => ((n1 : Int) - intOf i).toNat)
 case atStart => exact ⟨0,Nat.zero_le _,rfl,rfl⟩
 case round =>
  obtain ⟨j,hj,rfl,rfl⟩ := hrel; by_cases hlt : j < n1
  ·have d0 : decide ((j : Int) < (n1 : Int)) = true := decide_eq_true (by omega); have d1 : (0 : Int) ≤ (j : Int) := by omega
   have d2 : (j : Int) < (n1 : Int) := by omega
   obtain ⟨ao,cap,e2,-,hq⟩ := SP.out; injection e2 with e2 e3 e4
   subst e2; obtain ⟨gp,off,rfl,hgp,hcell⟩ := hq (by omega); have x0 := hcell j (by omega); have e5 : Hid (wrap64 ((j : Int) + 1) = ((j + 1 : Nat) : Int)) := by have := hz.out; show _ = _; unfold wrap64; omega
   by_cases hb : j = i0
   ·subst hb; have hx := HB.out.1; have t0 : decide ((15 : Int) < Sp.bz p j) = true := decide_eq_true (by omega); have t1 : (15 : Int) < Sp.bz p j := by omega
    have BF : Hid (Below w.heap.size w wr) := hg0 ▸ B0; clear HB; generalize Sp.bz p j = y at *; clear hq hcell e3 e4; go_wp2_with fail
    go_ret2
    exact ⟨rfl,BF.out⟩
   ·have hx : Sp.bz p j < 16 := HB.out.2 j (by omega); have t0 : decide ((15 : Int) < Sp.bz p j) = false := decide_eq_false (by omega); have t1 : ¬ (15 : Int) < Sp.bz p j := by omega
    clear HB; generalize Sp.bz p j = y at *; clear hq hcell e3 e4; go_wp2_with fail
    rw [e5.out]; exact ⟨⟨j + 1,by omega,rfl,by trivial⟩,msr_up j n1 hlt⟩
  ·exact absurd hlt (by omega)
theorem rt_road_bad (a1 a2 a3 : Option Addr) (n1 c1 n2 c2 n3 c3 : Nat) (P : By) (w : World) (p : By) (hz : Hid (n1 ≤ 4194304)) (hp : Hid (Pk.Sl p (.slice a1 n1 c1) w)) (i0 : Nat) (hi0 : i0 < n1) (HB : Hid ((16 : Int) ≤ Sp.bz p i0 ∧ ∀ j,j < i0 → Sp.bz p j < 16)) :
  Calls Tryz.prog 41 #[.agg #[.int .i64 2,.slice a1 n1 c1,.slice a2 n2 c2,.slice a3 n3 c3],.string (st P)] w fun e w' => e = .returned (.tuple #[.slice none 0 0,.bool false]) ∧ Below w.heap.size w w' := by
 have B0 : Below w.heap.size w (w.alloc (.cells #[.int .i64 2,.slice a1 n1 c1,.slice a2 n2 c2,.slice a3 n3 c3] 25)) := (Below.refl _ _).alloc (Nat.le_refl _) _; have HA := heap_alloc_new w (.cells #[.int .i64 2,.slice a1 n1 c1,.slice a2 n2 c2,.slice a3 n3 c3] 25); have q0 : (w.alloc (.cells #[.int .i64 2,.slice a1 n1 c1,.slice a2 n2 c2,.slice a3 n3 c3] 25)).cell? ⟨w.heap.size,0,none⟩ = some (.int .i64 2) := by simp only [World.cell?,HA]; rfl
 have q1 : (w.alloc (.cells #[.int .i64 2,.slice a1 n1 c1,.slice a2 n2 c2,.slice a3 n3 c3] 25)).cell? ⟨w.heap.size,1,none⟩ = some (.slice a1 n1 c1) := by simp only [World.cell?,HA]; rfl
 have q2 : (w.alloc (.cells #[.int .i64 2,.slice a1 n1 c1,.slice a2 n2 c2,.slice a3 n3 c3] 25)).cell? ⟨w.heap.size,2,none⟩ = some (.slice a2 n2 c2) := by simp only [World.cell?,HA]; rfl
 have q3 : (w.alloc (.cells #[.int .i64 2,.slice a1 n1 c1,.slice a2 n2 c2,.slice a3 n3 c3] 25)).cell? ⟨w.heap.size,3,none⟩ = some (.slice a3 n3 c3) := by simp only [World.cell?,HA]; rfl
 have hh : w.heap.size < (w.alloc (.cells #[.int .i64 2,.slice a1 n1 c1,.slice a2 n2 c2,.slice a3 n3 c3] 25)).heap.size := by simp
 have SP : Hid (Pk.Sl p (.slice a1 n1 c1) (w.alloc (.cells #[.int .i64 2,.slice a1 n1 c1,.slice a2 n2 c2,.slice a3 n3 c3] 25))) := Pk.Sl_below hp.out B0; clear HA; go_enter Tryz.func41,Tryz.ntmps41
 go_wp2_with fail
 generalize (w.alloc (.cells #[.int .i64 2,.slice a1 n1 c1,.slice a2 n2 c2,.slice a3 n3 c3] 25)) = W0 at *; generalize hg0 : w.heap.size = g0 at *; go_loopw [16] (fun i wr => ∃ j : Nat,j ≤ i0 ∧ i = .int .i64 (j : Int) ∧ wr = W0) (fun i _ => ((n1 : Int) - intOf i).toNat)
 case atStart => exact ⟨0,Nat.zero_le _,rfl,rfl⟩
 case round =>
  obtain ⟨j,hj,rfl,rfl⟩ := hrel; by_cases hlt : j < n1
  ·have d0 : decide ((j : Int) < (n1 : Int)) = true := decide_eq_true (by omega); have d1 : (0 : Int) ≤ (j : Int) := by omega
   have d2 : (j : Int) < (n1 : Int) := by omega
   obtain ⟨ao,cap,e2,-,hq⟩ := SP.out; injection e2 with e2 e3 e4
   subst e2; obtain ⟨gp,off,rfl,hgp,hcell⟩ := hq (by omega); have x0 := hcell j (by omega); have e5 : Hid (wrap64 ((j : Int) + 1) = ((j + 1 : Nat) : Int)) := by have := hz.out; show _ = _; unfold wrap64; omega
   by_cases hb : j = i0
   ·subst hb; have hx := HB.out.1; have t0 : decide ((15 : Int) < Sp.bz p j) = true := decide_eq_true (by omega); have t1 : (15 : Int) < Sp.bz p j := by omega
    have BF : Hid (Below w.heap.size w wr) := hg0 ▸ B0; clear HB; generalize Sp.bz p j = y at *; clear hq hcell e3 e4; go_wp2_with fail
    go_ret2
    exact ⟨rfl,BF.out⟩
   ·have hx : Sp.bz p j < 16 := HB.out.2 j (by omega); have t0 : decide ((15 : Int) < Sp.bz p j) = false := decide_eq_false (by omega); have t1 : ¬ (15 : Int) < Sp.bz p j := by omega
    clear HB; generalize Sp.bz p j = y at *; clear hq hcell e3 e4; go_wp2_with fail
    rw [e5.out]; exact ⟨⟨j + 1,by omega,rfl,by trivial⟩,msr_up j n1 hlt⟩
  ·exact absurd hlt (by omega)
end Tr
end Go.Proofs.YtlbdaccmnpcccaaGreatDoor
namespace Go.Proofs.YtlbdaccmnpcccaaGreatDoor
namespace Tr
open Nb Go.RowKit
inductive RDI (W0 : World) (G : Value → World → Prop) (ok : Bool) (a1 a2 : Option Addr) (n1 c1 n2 c2 c3 gk off g0 j : Nat) (q : Int) (b1 b2 b3 : Option Addr) (m1 d1 m2 d2 m3 d3 : Nat) (X Y Z : ByteArray) (v7 v18 v19 v20 v21 v22 v23 v24 v25 v26 v27 v28 v29 v30 v31 v32 : Value) (d : Nat → Bool) (x : Act) (wx : World) : Prop where
 | mk (u4 u5 u61 u62 u63 u64 u65 u66 u67 u68 u69 u70 u71 u72 : Value) (hx : x = { tmps := #[.agg #[.int .i64 2,.slice a1 n1 c1,.slice a2 n2 c2,.slice (some ⟨gk,off,none⟩) 1 c3],.string X,.pointer (some ⟨g0,0,none⟩),undef,u4,u5,undef,v7,undef,undef,undef,undef,undef,.pointer (some ⟨g0,1,none⟩),.slice a1 n1 c1,.int .i64 (n1 : Int),.int .i64 (j : Int),.bool false,v18,v19,v20,v21,v22,v23,v24,v25,v26,v27,v28,v29,v30,v31,v32,.bool false,.pointer (some ⟨g0,0,none⟩),.int .i64 2,.bool false,.bool false,.pointer (some ⟨g0,0,none⟩),.int .i64 2,.bool false,undef,undef,undef,undef,undef,undef,undef,undef,undef,undef,.bool true,.pointer (some ⟨g0,0,none⟩),.int .i64 2,.bool true,.bool true,.pointer (some ⟨g0,3,none⟩),.slice (some ⟨gk,off,none⟩) 1 c3,.int .i64 1,.bool true,.bool true,u61,u62,u63,u64,u65,u66,u67,u68,u69,u70,u71,u72,undef,undef,undef,undef,undef,undef,undef,undef,undef,undef,undef,undef,undef,undef,undef,undef,undef,undef,undef,undef,undef,undef,undef,undef,undef,undef,undef,undef,undef,undef,undef,undef,undef,undef,undef,undef,undef,undef,undef,undef,undef,undef,undef,undef,undef,undef,undef,undef],defers := [] }) (hw : Below W0.heap.size W0 wx) (p0 : d 0 = true → u61 = .pointer (some ⟨g0,3,none⟩)) (p1 : d 1 = true → u62 = .slice (some ⟨gk,off,none⟩) 1 c3) (p2 : d 2 = true → u63 = .pointer (some ⟨gk,off,none⟩)) (p3 : d 3 = true → u64 = .agg #[.int .i64 q,.slice b1 m1 d1,.slice b2 m2 d2,.slice b3 m3 d3]) (p4 : d 4 = true → u65 = .string X) (p5 : d 5 = true → u66 = .pointer (some ⟨g0,1,none⟩)) (p6 : d 6 = true → u67 = .slice a1 n1 c1) (p7 : d 7 = true → u68 = .string Y) (p8 : d 8 = true → u69 = .string Z) (p11 : d 11 = true → u72 = .bool ok) (p13 : d 13 = true → u5 = .bool ok) (z9 : d 9 = true → ∃ x,u70 = .tuple #[x,.bool ok] ∧ G x wx) (z10 : d 10 = true → G u71 wx) (z12 : d 12 = true → G u4 wx) : RDI W0 G ok a1 a2 n1 c1 n2 c2 c3 gk off g0 j q b1 b2 b3 m1 d1 m2 d2 m3 d3 X Y Z v7 v18 v19 v20 v21 v22 v23 v24 v25 v26 v27 v28 v29 v30 v31 v32 d x wx
theorem rt_road (a1 a2 : Option Addr) (n1 c1 n2 c2 c3 : Nat) (P : By) (w : World) (p : By) (hz : Hid (n1 ≤ 4194304)) (hp : Hid (Pk.Sl p (.slice a1 n1 c1) w)) (HP : Hid (∀ j,j < n1 → Sp.bz p j < 16)) (hn : Hid (n1 = p.length)) (hP : P.length ≤ 4194304) (G : Value → World → Prop) (ok : Bool) (GB : Hid (∀ x w w',G x w → Below w.heap.size w w' → G x w')) (q : Int) (b1 b2 b3 : Option Addr) (m1 d1 m2 d2 m3 d3 gk off : Nat) (hgk0 : gk < w.heap.size) (h0 : w.cell? ⟨gk,off,none⟩ = some (.int .i64 q)) (h1 : w.cell? ⟨gk,off + 1,none⟩ = some (.slice b1 m1 d1)) (h2 : w.cell? ⟨gk,off + 2,none⟩ = some (.slice b2 m2 d2)) (h3 : w.cell? ⟨gk,off + 3,none⟩ = some (.slice b3 m3 d3)) (KR0 : Hid (∀ wx : World,Below w.heap.size w wx → Calls Tryz.prog 41 #[.agg #[.int .i64 q,.slice b1 m1 d1,.slice b2 m2 d2,.slice b3 m3 d3],.string (st (P ++ p))] wx fun e w' => ∃ x,e = .returned (.tuple #[x,.bool ok]) ∧ G x w' ∧ Below wx.heap.size wx w')) :
  Calls Tryz.prog 41 #[.agg #[.int .i64 2,.slice a1 n1 c1,.slice a2 n2 c2,.slice (some ⟨gk,off,none⟩) 1 c3],.string (st P)] w fun e w' => (∃ x,e = .returned (.tuple #[x,.bool ok]) ∧ G x w') ∧ Below w.heap.size w w' := by
 have B0 : Below w.heap.size w (w.alloc (.cells #[.int .i64 2,.slice a1 n1 c1,.slice a2 n2 c2,.slice (some ⟨gk,off,none⟩) 1 c3] 25)) := (Below.refl _ _).alloc (Nat.le_refl _) _; have HA := heap_alloc_new w (.cells #[.int .i64 2,.slice a1 n1 c1,.slice a2 n2 c2,.slice (some ⟨gk,off,none⟩) 1 c3] 25); have q0 : (w.alloc (.cells #[.int .i64 2,.slice a1 n1 c1,.slice a2 n2 c2,.slice (some ⟨gk,off,none⟩) 1 c3] 25)).cell? ⟨w.heap.size,0,none⟩ = some (.int .i64 2) := by simp only [World.cell?,HA]; rfl
 have q1 : (w.alloc (.cells #[.int .i64 2,.slice a1 n1 c1,.slice a2 n2 c2,.slice (some ⟨gk,off,none⟩) 1 c3] 25)).cell? ⟨w.heap.size,1,none⟩ = some (.slice a1 n1 c1) := by simp only [World.cell?,HA]; rfl
 have q2 : (w.alloc (.cells #[.int .i64 2,.slice a1 n1 c1,.slice a2 n2 c2,.slice (some ⟨gk,off,none⟩) 1 c3] 25)).cell? ⟨w.heap.size,2,none⟩ = some (.slice a2 n2 c2) := by simp only [World.cell?,HA]; rfl
 have q3 : (w.alloc (.cells #[.int .i64 2,.slice a1 n1 c1,.slice a2 n2 c2,.slice (some ⟨gk,off,none⟩) 1 c3] 25)).cell? ⟨w.heap.size,3,none⟩ = some (.slice (some ⟨gk,off,none⟩) 1 c3) := by simp only [World.cell?,HA]; rfl
 have hh : w.heap.size < (w.alloc (.cells #[.int .i64 2,.slice a1 n1 c1,.slice a2 n2 c2,.slice (some ⟨gk,off,none⟩) 1 c3] 25)).heap.size := by simp
 have SP : Hid (Pk.Sl p (.slice a1 n1 c1) (w.alloc (.cells #[.int .i64 2,.slice a1 n1 c1,.slice a2 n2 c2,.slice (some ⟨gk,off,none⟩) 1 c3] 25))) := Pk.Sl_below hp.out B0; clear HA; have HC : Hid (∀ W : World,(Op.stringOp .add (st P) (st p)).run Tryz.prog W = .ok (.string (st (P ++ p))) W) := fun W => cat_st P p (by have := hn.out; have := hz.out; omega) W
 have hgk : gk < (w.alloc (.cells #[.int .i64 2,.slice a1 n1 c1,.slice a2 n2 c2,.slice (some ⟨gk,off,none⟩) 1 c3] 25)).heap.size := Nat.lt_of_lt_of_le hgk0 B0.size; have k0 := (B0.cell (p := ⟨gk,off,none⟩) hgk0).trans h0; have k1 := (B0.cell (p := ⟨gk,off + 1,none⟩) hgk0).trans h1; have k2 := (B0.cell (p := ⟨gk,off + 2,none⟩) hgk0).trans h2; have k3 := (B0.cell (p := ⟨gk,off + 3,none⟩) hgk0).trans h3; have KR : Hid (∀ wx : World,Below (w.alloc (.cells #[.int .i64 2,.slice a1 n1 c1,.slice a2 n2 c2,.slice (some ⟨gk,off,none⟩) 1 c3] 25)).heap.size (w.alloc (.cells #[.int .i64 2,.slice a1 n1 c1,.slice a2 n2 c2,.slice (some ⟨gk,off,none⟩) 1 c3] 25)) wx → Calls Tryz.prog 41 #[.agg #[.int .i64 q,.slice b1 m1 d1,.slice b2 m2 d2,.slice b3 m3 d3],.string (st (P ++ p))] wx fun e w' => ∃ x,e = .returned (.tuple #[x,.bool ok]) ∧ G x w' ∧ Below wx.heap.size wx w') := fun wx hb => KR0.out wx (B0.trans (hb.mono B0.size))
 have HV : Hid (∀ wx : World,Below (w.alloc (.cells #[.int .i64 2,.slice a1 n1 c1,.slice a2 n2 c2,.slice (some ⟨gk,off,none⟩) 1 c3] 25)).heap.size (w.alloc (.cells #[.int .i64 2,.slice a1 n1 c1,.slice a2 n2 c2,.slice (some ⟨gk,off,none⟩) 1 c3] 25)) wx → (convert 22 9 (.slice a1 n1 c1)).run Tryz.prog wx = .ok (.string (st p)) wx) := fun wx hb => Sl_st (Pk.Sl_below SP.out hb)
 clear h0 h1 h2 h3 KR0 hgk0 hP hn; go_enter Tryz.func41,Tryz.ntmps41
 go_wp2_with fail
 generalize (w.alloc (.cells #[.int .i64 2,.slice a1 n1 c1,.slice a2 n2 c2,.slice (some ⟨gk,off,none⟩) 1 c3] 25)) = W0 at *; generalize hg0 : w.heap.size = g0 at *; go_loopw [16] (fun i wr => ∃ j : Nat,j ≤ n1 ∧ i = .int .i64 (j : Int) ∧ wr = W0) (fun i _ => ((n1 : Int) - intOf i).toNat)
 case atStart => exact ⟨0,Nat.zero_le _,rfl,rfl⟩
 case round =>
  obtain ⟨j,hj,rfl,rfl⟩ := hrel; by_cases hlt : j < n1
  ·have d0 : decide ((j : Int) < (n1 : Int)) = true := decide_eq_true (by omega); have d1 : (0 : Int) ≤ (j : Int) := by omega
   have d2 : (j : Int) < (n1 : Int) := by omega
   obtain ⟨ao,cap,e2,-,hq⟩ := SP.out; injection e2 with e2 e3 e4
   subst e2; obtain ⟨gp,off,rfl,hgp,hcell⟩ := hq (by omega); have x0 := hcell j (by omega); have e5 : Hid (wrap64 ((j : Int) + 1) = ((j + 1 : Nat) : Int)) := by have := hz.out; show _ = _; unfold wrap64; omega
   have hx : Sp.bz p j < 16 := HP.out j (by omega); have t0 : decide ((15 : Int) < Sp.bz p j) = false := decide_eq_false (by omega); have t1 : ¬ (15 : Int) < Sp.bz p j := by omega
   generalize Sp.bz p j = y at *; clear hq hcell e3 e4; go_wp2_with fail
   rw [e5.out]; exact ⟨⟨j + 1,by omega,rfl,by trivial⟩,msr_up j n1 hlt⟩
  ·have d0 : decide ((j : Int) < (n1 : Int)) = false := decide_eq_false (by omega); go_upto_region 12 with fail
   have hw0 : Below wr.heap.size wr wr.drew := (Below.refl _ _).drew; generalize st (P ++ p) = Z at *; generalize st p = Y at *; generalize st P = X at *; refine RI.wp_region_inv (RDI wr G ok a1 a2 n1 c1 n2 c2 c3 gk off g0 j q b1 b2 b3 m1 d1 m2 d2 m3 d3 X Y Z u7 u18 u19 u20 u21 u22 u23 u24 u25 u26 u27 u28 u29 u30 u31 u32) (by kernel_rfl) (by kernel_rfl) ?_ ?_ ?_
   ·exact ⟨_,_,undef,undef,undef,undef,undef,undef,undef,undef,undef,undef,undef,undef,rfl,hw0,nofun,nofun,nofun,nofun,nofun,nofun,nofun,nofun,nofun,nofun,nofun,nofun,nofun,nofun⟩
   ·skip
    intro d x wx i hI hi hm; obtain ⟨u4,u5,u61,u62,u63,u64,u65,u66,u67,u68,u69,u70,u71,u72,rfl,hw,p0,p1,p2,p3,p4,p5,p6,p7,p8,p11,p13,z9,z10,z12⟩ := hI; have hi' : i = 0 ∨ i = 1 ∨ i = 2 ∨ i = 3 ∨ i = 4 ∨ i = 5 ∨ i = 6 ∨ i = 7 ∨ i = 8 ∨ i = 9 ∨ i = 10 ∨ i = 11 ∨ i = 12 ∨ i = 13 := by simp at hi; omega
    have hd := hm.2; have hf := hm.1; clear hm hi; rcases hi' with rfl | rfl | rfl | rfl | rfl | rfl | rfl | rfl | rfl | rfl | rfl | rfl | rfl | rfl
    ·refine RI.wpOp_plain rfl rfl ?_; go_simp; exact ⟨u4,u5,_,u62,u63,u64,u65,u66,u67,u68,u69,u70,u71,u72,rfl,hw,fun _ => rfl,p1,p2,p3,p4,p5,p6,p7,p8,p11,p13,z9,z10,z12⟩
    ·have hd := hd _ rfl; simp [Region.binds] at hd
     obtain rfl := p0 (by simp [hd]); refine RI.wpOp_plain rfl rfl ?_; have x0 := (hw.cell (p := ⟨g0,3,none⟩) hh).trans q3; go_simp; exact ⟨u4,u5,_,_,u63,u64,u65,u66,u67,u68,u69,u70,u71,u72,rfl,hw,p0,fun _ => rfl,p2,p3,p4,p5,p6,p7,p8,p11,p13,z9,z10,z12⟩
    ·have hd := hd _ rfl; simp [Region.binds] at hd
     obtain rfl := p1 (by simp [hd]); refine RI.wpOp_plain rfl rfl ?_; go_simp; exact ⟨u4,u5,u61,_,_,u64,u65,u66,u67,u68,u69,u70,u71,u72,rfl,hw,p0,p1,fun _ => rfl,p3,p4,p5,p6,p7,p8,p11,p13,z9,z10,z12⟩
    ·have hd := hd _ rfl; simp [Region.binds] at hd
     obtain rfl := p2 (by simp [hd]); refine RI.wpOp_plain rfl rfl ?_; have x0 := (hw.cell (p := ⟨gk,off,none⟩) hgk).trans k0; have x1 := (hw.cell (p := ⟨gk,off + 1,none⟩) hgk).trans k1; have x2 := (hw.cell (p := ⟨gk,off + 2,none⟩) hgk).trans k2; have x3 := (hw.cell (p := ⟨gk,off + 3,none⟩) hgk).trans k3; go_simp; exact ⟨u4,u5,u61,u62,_,_,u65,u66,u67,u68,u69,u70,u71,u72,rfl,hw,p0,p1,p2,fun _ => rfl,p4,p5,p6,p7,p8,p11,p13,z9,z10,z12⟩
    ·refine RI.wpOp_plain rfl rfl ?_; go_simp; exact ⟨u4,u5,u61,u62,u63,u64,_,u66,u67,u68,u69,u70,u71,u72,rfl,hw,p0,p1,p2,p3,fun _ => rfl,p5,p6,p7,p8,p11,p13,z9,z10,z12⟩
    ·refine RI.wpOp_plain rfl rfl ?_; go_simp; exact ⟨u4,u5,u61,u62,u63,u64,u65,_,u67,u68,u69,u70,u71,u72,rfl,hw,p0,p1,p2,p3,p4,fun _ => rfl,p6,p7,p8,p11,p13,z9,z10,z12⟩
    ·have hd := hd _ rfl; simp [Region.binds] at hd
     obtain rfl := p5 (by simp [hd]); refine RI.wpOp_plain rfl rfl ?_; have x0 := (hw.cell (p := ⟨g0,1,none⟩) hh).trans q1; go_simp; exact ⟨u4,u5,u61,u62,u63,u64,u65,_,_,u68,u69,u70,u71,u72,rfl,hw,p0,p1,p2,p3,p4,p5,fun _ => rfl,p7,p8,p11,p13,z9,z10,z12⟩
    ·have hd := hd _ rfl; simp [Region.binds] at hd
     obtain rfl := p6 (by simp [hd]); refine RI.wpOp_plain rfl rfl ?_; have hcv := HV.out _ hw; go_simp; exact ⟨u4,u5,u61,u62,u63,u64,u65,u66,_,_,u69,u70,u71,u72,rfl,hw,p0,p1,p2,p3,p4,p5,p6,fun _ => rfl,p8,p11,p13,z9,z10,z12⟩
    ·have hd := hd _ rfl; simp [Region.binds] at hd
     obtain rfl := p4 (by simp [hd]); obtain rfl := p7 (by simp [hd]); refine RI.wpOp_plain rfl rfl ?_; have hcc := HC.out wx; go_simp; exact ⟨u4,u5,u61,u62,u63,u64,_,u66,u67,_,_,u70,u71,u72,rfl,hw,p0,p1,p2,p3,p4,p5,p6,p7,fun _ => rfl,p11,p13,z9,z10,z12⟩
    ·have hd := hd _ rfl; simp [Region.binds] at hd
     obtain rfl := p3 (by simp [hd]); obtain rfl := p8 (by simp [hd]); refine RI.wpOp_plain rfl rfl ?_; go_simp; refine (KR.out _ hw).mono ?_; rintro e w1 ⟨x9,rfl,g9,hb1⟩; exact ⟨u4,u5,u61,u62,u63,_,u65,u66,u67,u68,_,_,u71,u72,rfl,hw.trans (hb1.mono hw.size),p0,p1,p2,p3,p4,p5,p6,p7,p8,p11,p13,fun _ => ⟨_,rfl,g9⟩,(fun h => GB.out _ _ _ (z10 h) hb1),(fun h => GB.out _ _ _ (z12 h) hb1)⟩
    ·have hd := hd _ rfl; simp [Region.binds] at hd
     refine RI.wpOp_plain rfl rfl ?_; obtain ⟨x9,rfl,g9⟩ := z9 (by simp [hd]); go_simp; exact ⟨u4,u5,u61,u62,u63,u64,u65,u66,u67,u68,u69,_,_,u72,rfl,hw,p0,p1,p2,p3,p4,p5,p6,p7,p8,p11,p13,z9,fun _ => g9,z12⟩
    ·have hd := hd _ rfl; simp [Region.binds] at hd
     refine RI.wpOp_plain rfl rfl ?_; obtain ⟨x9,rfl,g9⟩ := z9 (by simp [hd]); go_simp; exact ⟨u4,u5,u61,u62,u63,u64,u65,u66,u67,u68,u69,_,u71,_,rfl,hw,p0,p1,p2,p3,p4,p5,p6,p7,p8,fun _ => rfl,p13,z9,z10,z12⟩
    ·have hd := hd _ rfl; simp [Region.binds] at hd
     obtain rfl := p0 (by simp [hd]); obtain rfl := p1 (by simp [hd]); obtain rfl := p2 (by simp [hd]); obtain rfl := p3 (by simp [hd]); obtain rfl := p4 (by simp [hd]); obtain rfl := p5 (by simp [hd]); obtain rfl := p6 (by simp [hd]); obtain rfl := p7 (by simp [hd]); obtain rfl := p8 (by simp [hd]); obtain rfl := p11 (by simp [hd]); refine RI.wpOp_plain rfl rfl ?_; go_simp; exact ⟨_,u5,_,_,_,_,_,_,_,_,_,u70,u71,_,rfl,hw,p0,p1,p2,p3,p4,p5,p6,p7,p8,p11,p13,z9,z10,fun _ => z10 (by simp [hd])⟩
    ·have hd := hd _ rfl; simp [Region.binds] at hd
     obtain rfl := p0 (by simp [hd]); obtain rfl := p1 (by simp [hd]); obtain rfl := p2 (by simp [hd]); obtain rfl := p3 (by simp [hd]); obtain rfl := p4 (by simp [hd]); obtain rfl := p5 (by simp [hd]); obtain rfl := p6 (by simp [hd]); obtain rfl := p7 (by simp [hd]); obtain rfl := p8 (by simp [hd]); obtain rfl := p11 (by simp [hd]); refine RI.wpOp_plain rfl rfl ?_; go_simp; exact ⟨u4,_,_,_,_,_,_,_,_,_,_,u70,u71,_,rfl,hw,p0,p1,p2,p3,p4,p5,p6,p7,p8,p11,fun _ => rfl,z9,z10,z12⟩
   ·skip
    intro d x wx hI hd; obtain ⟨u4,u5,u61,u62,u63,u64,u65,u66,u67,u68,u69,u70,u71,u72,rfl,hw,p0,p1,p2,p3,p4,p5,p6,p7,p8,p11,p13,z9,z10,z12⟩ := hI; have g4 := z12 (hd 12 (by decide)); obtain rfl := p13 (hd 13 (by decide)); clear p0 p1 p2 p3 p4 p5 p6 p7 p8 p11 z9 z10 z12; have HB : Hid (Below w.heap.size w wx) := by
     show Below _ _ _
     rw [hg0]; exact B0.trans (hw.mono (by omega))
    have HG : Hid (G u4 wx) := g4; clear hw g4; go_wp2_with fail
    go_ret2
    exact ⟨⟨_,rfl,HG.out⟩,by first | exact HB.out | (rw [← hg0]; exact HB.out)⟩
end Tr
end Go.Proofs.YtlbdaccmnpcccaaGreatDoor
namespace Go.Proofs.YtlbdaccmnpcccaaGreatDoor
namespace Tr
open Nb Go.RowKit
theorem wpList_apw {P : Program} {ops : Array Oper} {rest : List Oper} {o : Oper} {a : Act} {Q : Exit → Act → World → Prop} {s x : Operand} {t u : TypeId} {v v2 v' : Value} {w w' : World} (hgd : o.guard = none) (ho : o.op = .call { callee := .builtin .append,args := #[s,x],argTypes := #[t,u] }) (hs : a.eval s = v) (hx : a.eval x = v2)
  (hr : (Builtin.append_ #[t,u] o.type #[v,v2]).run P w = .ok v' w') (h : wpList P ops Q rest (a.put o.dst v') w') : wpList P ops Q (o :: rest) a w := by
 refine wpList_plain hgd fun _ hK => ?_
 unfold Oper.wp execOp
 simp only [ho,resolve,invoke,builtin,Sem.run_bind,Sem.run_pure,Result.andThen_ok,List.map_toArray,List.map_cons,List.map_nil,hs,hx,hr]; exact hK _ _ h
theorem pre_pre (p q : By) (l : Rt) : pre p (pre q l) = pre (p ++ q) l := by
 unfold pre
 rw [List.map_map]; apply List.map_congr_left
 intro r _; show (p ++ (q ++ r.1),r.2) = (p ++ q ++ r.1,r.2)
 rw [List.append_assoc]
theorem pre_app (p : By) (a b : Rt) : pre p (a ++ b) = pre p a ++ pre p b := by simp [pre]
theorem pre_len' (p : By) (a : Rt) : (pre p a).length = a.length := by simp [pre]
theorem rtk_snoc (t : Nd) : ∀ (ks : List Nd) (i : Nat),rtk i (ks ++ [t]) = match rtk i ks,rt t with
  | some L,some a => some (L ++ pre [UInt8.ofNat (i + ks.length)] a)
  | _,_ => none
 | [],i => by
  show rtk i [t] = _
  unfold rtk
  cases h : rt t with
  | none => simp
  | some a => simp [rtk]
 | k :: ks,i => by
  rw [List.cons_append]; unfold rtk
  rw [rtk_snoc t ks (i + 1)]; cases rt k with
  | none => rfl
  | some a =>
   cases rtk (i + 1) ks with
   | none => rfl
   | some L =>
    cases rt t with
    | none => rfl
    | some b =>
     show some (pre [UInt8.ofNat i] a ++ (L ++ pre [UInt8.ofNat (i + 1 + ks.length)] b)) = some ((pre [UInt8.ofNat i] a ++ L) ++ pre [UInt8.ofNat (i + (k :: ks).length)] b)
     rw [List.append_assoc,List.length_cons,show i + 1 + ks.length = i + (ks.length + 1) by omega]
theorem rtk_bad : ∀ (ks : List Nd) (i k : Nat),k < ks.length → rt (ks.getD k Nd.no) = none → rtk i ks = none
 | [],_,k,h,_ => absurd h (by simp)
 | t :: r,i,0,_,h => by
  rw [List.getD_cons_zero] at h; unfold rtk
  rw [h]
 | t :: r,i,k + 1,hk,h => by
  rw [List.getD_cons_succ] at h; have := rtk_bad r (i + 1) k (by simpa using hk) h; unfold rtk
  rw [this]; cases rt t <;> rfl
theorem rtk_take (ks : List Nd) (k : Nat) (hk : k < ks.length) (L a : Rt) (hL : rtk 0 (ks.take k) = some L) (ha : rt (ks.getD k Nd.no) = some a) : rtk 0 (ks.take (k + 1)) = some (L ++ pre [UInt8.ofNat k] a) := by
 have e : ks.take (k + 1) = ks.take k ++ [ks.getD k Nd.no] := by
  rw [List.take_add_one,List.getD_eq_getElem?_getD,List.getElem?_eq_getElem hk]; rfl
 rw [e,rtk_snoc,hL,ha,List.length_take,show 0 + min k ks.length = k by omega]
theorem rt_three (p v : By) (ks : List Nd) (hl : ks.length = 16) : rt (.mk 3 p v ks) = (rtk 0 ks).map fun l => (if v = [] then [] else [([],v)]) ++ l := by
 rw [rt,if_neg (fun h => by rcases h.1 with h | h <;> exact absurd h (by decide)),if_neg (by decide),if_neg (by decide),if_neg (fun h => absurd h.1 (by decide)),if_pos ⟨rfl,hl⟩]
theorem lit_b (k : Nat) (h : k < 16) (w : World) : Pk.Sl [UInt8.ofNat k] (.slice (some ⟨w.heap.size,0,none⟩) 1 1) (w.alloc (.cells #[.int .u8 (k : Int)] 5)) := by
 have HA := heap_alloc_new w (.cells #[.int .u8 (k : Int)] 5); refine ⟨_,_,rfl,Nat.le_refl _,fun _ => ⟨_,_,rfl,by simp,fun j hj => ?_⟩⟩
 have e : j = 0 := by simpa using hj
 subst e; have e2 : Sp.bz [UInt8.ofNat k] 0 = (k : Int) := by
  show (((UInt8.ofNat k).toNat : Nat) : Int) = _
  rw [u8_toNat k h]
 rw [e2]; simp only [World.cell?,HA]; rfl
def RT (t : Nd) (P : By) (e : Ending) (w : World) : Prop := (∃ l x,rt t = some l ∧ e = .returned (.tuple #[x,.bool true]) ∧ Rv (pre P l) x w) ∨ (rt t = none ∧ e = .returned (.tuple #[.slice none 0 0,.bool false]))
theorem rt_fork_v (a1 a2 : Option Addr) (n1 c1 n2 c2 c3 : Nat) (P : By) (w : World) (p : By) (hz : Hid (n1 ≤ 4194304)) (hp : Hid (Pk.Sl p (.slice a1 n1 c1) w)) (v : By) (hv : Hid (Pk.Sl v (.slice a2 n2 c2) w)) (hv2 : Hid (n2 = v.length)) (hP : P.length ≤ 4194304) (S : Nat → Prop) (ks : List Nd) (vs : List V4) (gk off : Nat) (hl : Hid (ks.length = 16)) (hl2 : Hid (vs.length = 16)) (hk : Hid (Ks S vs (.slice (some ⟨gk,off,none⟩) 16 c3) w)) (hi : Hid (∀ j,j < 16 → Nv S w (ks.getD j Nd.no) (vs.getD j n4)))
  (KR : Hid (∀ j,j < 16 → ∀ (u : V4) (wx : World),Nv S wx (ks.getD j Nd.no) u → Calls Tryz.prog 41 #[v4 u,.string (st (P ++ [UInt8.ofNat j]))] wx fun e w' => RT (ks.getD j Nd.no) (P ++ [UInt8.ofNat j]) e w' ∧ Below wx.heap.size wx w')) (HN : Hid (∀ j L a,j < 16 → rtk 0 (ks.take j) = some L → rt (ks.getD j Nd.no) = some a → 1 + L.length + a.length ≤ 4194304)) (hne : Hid (v ≠ [])) :
  Calls Tryz.prog 41 #[.agg #[.int .i64 3,.slice a1 n1 c1,.slice a2 n2 c2,.slice (some ⟨gk,off,none⟩) 16 c3],.string (st P)] w fun e w' => RT (.mk 3 p v ks) P e w' ∧ Below w.heap.size w w' := by
 have B0 : Below w.heap.size w (w.alloc (.cells #[.int .i64 3,.slice a1 n1 c1,.slice a2 n2 c2,.slice (some ⟨gk,off,none⟩) 16 c3] 25)) := (Below.refl _ _).alloc (Nat.le_refl _) _; have HA := heap_alloc_new w (.cells #[.int .i64 3,.slice a1 n1 c1,.slice a2 n2 c2,.slice (some ⟨gk,off,none⟩) 16 c3] 25); have q0 : (w.alloc (.cells #[.int .i64 3,.slice a1 n1 c1,.slice a2 n2 c2,.slice (some ⟨gk,off,none⟩) 16 c3] 25)).cell? ⟨w.heap.size,0,none⟩ = some (.int .i64 3) := by simp only [World.cell?,HA]; rfl
 have q1 : (w.alloc (.cells #[.int .i64 3,.slice a1 n1 c1,.slice a2 n2 c2,.slice (some ⟨gk,off,none⟩) 16 c3] 25)).cell? ⟨w.heap.size,1,none⟩ = some (.slice a1 n1 c1) := by simp only [World.cell?,HA]; rfl
 have q2 : (w.alloc (.cells #[.int .i64 3,.slice a1 n1 c1,.slice a2 n2 c2,.slice (some ⟨gk,off,none⟩) 16 c3] 25)).cell? ⟨w.heap.size,2,none⟩ = some (.slice a2 n2 c2) := by simp only [World.cell?,HA]; rfl
 have q3 : (w.alloc (.cells #[.int .i64 3,.slice a1 n1 c1,.slice a2 n2 c2,.slice (some ⟨gk,off,none⟩) 16 c3] 25)).cell? ⟨w.heap.size,3,none⟩ = some (.slice (some ⟨gk,off,none⟩) 16 c3) := by simp only [World.cell?,HA]; rfl
 have hh : w.heap.size < (w.alloc (.cells #[.int .i64 3,.slice a1 n1 c1,.slice a2 n2 c2,.slice (some ⟨gk,off,none⟩) 16 c3] 25)).heap.size := by simp
 have SP : Hid (Pk.Sl p (.slice a1 n1 c1) (w.alloc (.cells #[.int .i64 3,.slice a1 n1 c1,.slice a2 n2 c2,.slice (some ⟨gk,off,none⟩) 16 c3] 25))) := Pk.Sl_below hp.out B0; clear HA; have SV : Hid (Pk.Sl v (.slice a2 n2 c2) (w.alloc (.cells #[.int .i64 3,.slice a1 n1 c1,.slice a2 n2 c2,.slice (some ⟨gk,off,none⟩) 16 c3] 25))) := Pk.Sl_below hv.out B0; have HCP : Hid (∀ (j : Nat) (W : World),(Op.stringOp .add (st P) (st [UInt8.ofNat j])).run Tryz.prog W = .ok (.string (st (P ++ [UInt8.ofNat j]))) W) := fun j W => cat_st P _ (by simp; omega) W
 have BW : Hid (Below w.heap.size w (w.alloc (.cells #[.int .i64 3,.slice a1 n1 c1,.slice a2 n2 c2,.slice (some ⟨gk,off,none⟩) 16 c3] 25))) := B0; have f2 : (0 : Int) < (n2 : Int) := by have := List.length_pos_iff.2 hne.out; have := hv2.out; omega
 have f3 : decide ((0 : Int) < (n2 : Int)) = true := decide_eq_true f2; go_enter Tryz.func41,Tryz.ntmps41
 go_wp2_with fail
 generalize (w.alloc (.cells #[.int .i64 3,.slice a1 n1 c1,.slice a2 n2 c2,.slice (some ⟨gk,off,none⟩) 16 c3] 25)) = W0 at *; generalize hg0 : w.heap.size = g0 at *; go_loopw [16] (fun i wr => ∃ j : Nat,j ≤ n1 ∧ i = .int .i64 (j : Int) ∧ wr = W0) (fun i _ => ((n1 : Int) - intOf i).toNat)
 case atStart => exact ⟨0,Nat.zero_le _,rfl,rfl⟩
 case round =>
  obtain ⟨j,hj,rfl,rfl⟩ := hrel; by_cases hlt : j < n1
  ·have d0 : decide ((j : Int) < (n1 : Int)) = true := decide_eq_true (by omega); have d1 : (0 : Int) ≤ (j : Int) := by omega
   have d2 : (j : Int) < (n1 : Int) := by omega
   obtain ⟨ao,cap,e2,-,hq⟩ := SP.out; injection e2 with e2 e3 e4
   subst e2; obtain ⟨gp,off,rfl,hgp,hcell⟩ := hq (by omega); have x0 := hcell j (by omega); have e5 : Hid (wrap64 ((j : Int) + 1) = ((j + 1 : Nat) : Int)) := by have := hz.out; show _ = _; unfold wrap64; omega
   clear hq hcell e3 e4; go_wp2_with fail
   rw [e5.out]; exact ⟨⟨j + 1,by omega,rfl,by trivial⟩,msr_up j n1 hlt⟩
  ·have d0 : decide ((j : Int) < (n1 : Int)) = false := decide_eq_false (by omega); obtain ⟨v1,w1,hap,ho1,hb1,-⟩ := app_rv (lo := wr.heap.size) (x := []) 86 (World.ownsRow_nil _ _ _ _) (lit_rv (P,v) wr) (by simp) (by simp); have x2 := Sl_st SV.out; have O1 : Hid (Ow wr.heap.size (pre P ([([],v)] ++ [])) v1 w1) := by
    have e : pre P ([([],v)] ++ []) = [] ++ [(P,v)] := by simp [pre]
    show Ow _ _ _ _
    rw [e]; exact ho1
   have bA : Below wr.heap.size wr (wr.alloc (.cells #[.string (st P),.string (st v)] 90)) := (Below.refl _ _).alloc (Nat.le_refl _) _; have B1 : Hid (Below wr.heap.size wr w1) := bA.trans hb1; have q3' := (B1.out.cell (p := ⟨g0,3,none⟩) hh).trans q3; have hh' : g0 < w1.heap.size := Nat.lt_of_lt_of_le hh B1.out.size; obtain ⟨oa,on,oc,rfl⟩ := own_slice ho1; clear ho1 hb1 bA; generalize st v = Z at *; go_upto_region 16 with fail
   go_wp2_with (at_builtin; refine wpList_apw rfl rfl rfl rfl hap ?_)
   clear hap x2; generalize hWa : wr = Wa at *; go_loopw [8,98] (fun o i w2 => ∃ (k : Nat) (L : Rt),k ≤ 16 ∧ i = .int .i64 (k : Int) ∧ rtk 0 (ks.take k) = some L ∧ Ow Wa.heap.size (pre P ([([],v)] ++ L)) o w2 ∧ Below Wa.heap.size Wa w2) (fun _ i _ => ((16 : Int) - intOf i).toNat)
   case atStart => exact ⟨0,[],by omega,rfl,by unfold rtk; rfl,O1.out,B1.out⟩
   case round =>
    obtain ⟨k,L,hk16,rfl,hL,ho,hB⟩ := hrel; have RTS : Hid (rt (.mk 3 p v ks) = (rtk 0 ks).map fun l => [([],v)] ++ l) := by
     show _ = _
     rw [rt_three p v ks hl.out]; rw [if_neg hne.out]
    by_cases hkl : k < 16
    ·have t0 : decide ((k : Int) < 16) = true := decide_eq_true (by omega); have t1 : (0 : Int) ≤ (k : Int) := by omega
     have t2 : (k : Int) < 16 := by omega
     have BWw : Below w.heap.size w wr := (hg0 ▸ BW.out).trans (hB.mono (hg0 ▸ BW.out).size); obtain ⟨ao,cap,e2,-,hq⟩ := hk.out; obtain ⟨gk',off',e3,-,hgk,hcell⟩ := hq (by have := hl2.out; omega)
     injection e2 with e2 e4 e5
     rw [e3] at e2; injection e2 with e2
     injection e2 with e6 e7
     subst e6 e7; clear e3 e4 e5; obtain ⟨x0,x1,x2,x3⟩ := hcell k (by have := hl2.out; omega)
     have iv := hi.out k hkl; obtain ⟨q,b1,m1,d1,b2,m2,d2,b3,m3,d3,ev⟩ := Nv_form iv; rw [ev] at x0 x1 x2 x3 iv; have z0 := (BWw.cell (p := ⟨gk,off + 4 * k,none⟩) hgk).trans x0; have z1 := (BWw.cell (p := ⟨gk,off + 4 * k + 1,none⟩) hgk).trans x1; have z2 := (BWw.cell (p := ⟨gk,off + 4 * k + 2,none⟩) hgk).trans x2; have z3 := (BWw.cell (p := ⟨gk,off + 4 * k + 3,none⟩) hgk).trans x3; have hgk2 : gk < wr.heap.size := Nat.lt_of_lt_of_le hgk BWw.size; rw [Nat.mul_comm 4 k] at z0 z1 z2 z3; have bA : Below wr.heap.size wr (wr.alloc (.cells #[.int .i64 q,.slice b1 m1 d1,.slice b2 m2 d2,.slice b3 m3 d3] 25)) := (Below.refl _ _).alloc (Nat.le_refl _) _; have IV : Hid (Nv S (wr.alloc (.cells #[.int .i64 q,.slice b1 m1 d1,.slice b2 m2 d2,.slice b3 m3 d3] 25)) (ks.getD k Nd.no) (.int .i64 q,.slice b1 m1 d1,.slice b2 m2 d2,.slice b3 m3 d3)) := Nv_below (Nv_below iv BWw) bA; have OW : Hid (Ow Wa.heap.size (pre P ([([],v)] ++ L)) _ (wr.alloc (.cells #[.int .i64 q,.slice b1 m1 d1,.slice b2 m2 d2,.slice b3 m3 d3] 25))) := Pk.ownb ho bA; have BX : Hid (Bx wr.heap.size (.int .i64 q,.slice b1 m1 d1,.slice b2 m2 d2,.slice b3 m3 d3) (wr.alloc (.cells #[.int .i64 q,.slice b1 m1 d1,.slice b2 m2 d2,.slice b3 m3 d3] 25))) := Bx_new wr (.int .i64 q,.slice b1 m1 d1,.slice b2 m2 d2,.slice b3 m3 d3); have BB : Hid (Below Wa.heap.size Wa (wr.alloc (.cells #[.int .i64 q,.slice b1 m1 d1,.slice b2 m2 d2,.slice b3 m3 d3] 25))) := hB.trans (bA.mono hB.size); have KB : Hid (∀ wx : World,Nv S wx (ks.getD k Nd.no) (.int .i64 q,.slice b1 m1 d1,.slice b2 m2 d2,.slice b3 m3 d3) → Calls Tryz.prog 41 #[.agg #[.int .i64 q,.slice b1 m1 d1,.slice b2 m2 d2,.slice b3 m3 d3],.string (st (P ++ [UInt8.ofNat k]))] wx fun e w' => RT (ks.getD k Nd.no) (P ++ [UInt8.ofNat k]) e w' ∧ Below wx.heap.size wx w') := fun wx h => KR.out k hkl (.int .i64 q,.slice b1 m1 d1,.slice b2 m2 d2,.slice b3 m3 d3) wx h
     have e8 : IntKind.u8.wrap (k : Int) = (k : Int) := by rw [IntKind.wrap_u8]; omega
     have e9 : Hid (wrap64 ((k : Int) + 1) = ((k + 1 : Nat) : Int)) := by show _ = _; unfold wrap64; omega
     obtain ⟨oa2,on2,oc2,rfl⟩ := own_slice ho; have HLK : Hid (rtk 0 (ks.take k) = some L) := hL; clear hq hcell x0 x1 x2 x3 ev iv BWw bA ho hB hL; go_upto_region 20 with fail
     generalize wr.alloc (.cells #[.int .i64 q,.slice b1 m1 d1,.slice b2 m2 d2,.slice b3 m3 d3] 25) = W1 at *; generalize wr.heap.size = h10 at *; obtain ⟨hx,y0,y1,y2,y3⟩ := BX.out; dsimp only at y0 y1 y2 y3; have bC : Below W1.heap.size W1 (W1.alloc (.cells #[.int .u8 (k : Int)] 5)) := (Below.refl _ _).alloc (Nat.le_refl _) _; have hcs := Sl_st (lit_b k hkl W1); have hcc := HCP.out k (W1.alloc (.cells #[.int .u8 (k : Int)] 5)); have KK : Hid _ := KB.out _ (Nv_below IV.out bC); have OW2 : Hid (Ow _ _ _ _) := Pk.ownb OW.out bC; have BB2 : Hid (Below Wa.heap.size Wa _) := BB.out.trans (bC.mono BB.out.size); clear BX KB IV bC OW BB; generalize st (P ++ [UInt8.ofNat k]) = Y at *; generalize st [UInt8.ofNat k] = C at *; go_wp2_with fail
     refine Calls.mono KK.out (fun e w5 he => ?_)
     obtain ⟨hr,b5⟩ := he; rcases hr with ⟨l,x,hrt,rfl,hrv⟩ | ⟨hrt,rfl⟩
     ·have o5 := Pk.ownb OW2.out b5; obtain ⟨v6,w6,hap,ho6,hb6,-⟩ := app_rv 86 o5 hrv (Nat.le_trans BB2.out.size b5.size) (by
       have := HN.out k L l hkl HLK.out hrt; rw [pre_len',pre_len',List.length_append]; simp only [List.length_cons,List.length_nil]; omega)
      have B6 : Hid (Below Wa.heap.size Wa w6) := (BB2.out.trans (b5.mono BB2.out.size)).trans hb6; have O6 : Hid (Ow Wa.heap.size (pre P ([([],v)] ++ (L ++ pre [UInt8.ofNat k] l))) v6 w6) := by
       have e : pre P ([([],v)] ++ (L ++ pre [UInt8.ofNat k] l)) = pre P ([([],v)] ++ L) ++ pre (P ++ [UInt8.ofNat k]) l := by rw [← List.append_assoc,pre_app,pre_pre]
       show Ow _ _ _ _
       rw [e]; exact ho6
      have R6 : Hid (rtk 0 (ks.take (k + 1)) = some (L ++ pre [UInt8.ofNat k] l)) := rtk_take ks k (by have := hl.out; omega) L l HLK.out hrt
      obtain ⟨ax,cx,rfl,-,-⟩ := hrv; obtain ⟨oa6,on6,oc6,rfl⟩ := own_slice ho6; generalize (pre (P ++ [UInt8.ofNat k]) l).length = nx at *; clear KK OW2 BB2 o5 b5 ho6 hb6 hrt HLK; go_wp2_with (at_builtin; refine wpList_apw rfl rfl rfl rfl hap ?_)
      first | rw [e9.out] | rw [show (k : Int) + 1 = ((k + 1 : Nat) : Int) from by omega]
      exact ⟨⟨k + 1,L ++ pre [UInt8.ofNat k] l,by omega,rfl,R6.out,O6.out,B6.out⟩,msr_up k 16 hkl⟩
     ·have B6 : Hid (Below w.heap.size w w5) := by
       show Below _ _ _
       have h1 := BB2.out.trans (b5.mono BB2.out.size); exact (hg0 ▸ BW.out).trans (h1.mono (hg0 ▸ BW.out).size)
      have R6 : Hid (rt (.mk 3 p v ks) = none) := by
       show _ = _
       rw [RTS.out,rtk_bad ks 0 k (by have := hl.out; omega) hrt]
       rfl
      clear KK OW2 BB2 b5 hrt HLK; go_wp2_with fail
      go_ret2
      exact ⟨.inr ⟨R6.out,rfl⟩,by first | exact B6.out | (rw [← hg0]; exact B6.out)⟩
    ·have t0 : decide ((k : Int) < 16) = false := decide_eq_false (by omega); have ek : ks.take k = ks := List.take_of_length_le (by have := hl.out; omega)
     rw [ek] at hL; have R6 : Hid (rt (.mk 3 p v ks) = some ([([],v)] ++ L)) := by
      show _ = _
      rw [RTS.out,hL]; rfl
     have RV : Hid (Rv (pre P ([([],v)] ++ L)) _ wr) := own_rv ho; have B6 : Hid (Below w.heap.size w wr) := (hg0 ▸ BW.out).trans (hB.mono (hg0 ▸ BW.out).size); obtain ⟨oa2,on2,oc2,rfl⟩ := own_slice ho; clear ho hL hB; go_wp2_with fail
     go_ret2
     exact ⟨.inl ⟨_,_,R6.out,rfl,RV.out⟩,by first | exact B6.out | (rw [← hg0]; exact B6.out)⟩
theorem rt_fork_e (a1 a2 : Option Addr) (n1 c1 n2 c2 c3 : Nat) (P : By) (w : World) (p : By) (hz : Hid (n1 ≤ 4194304)) (hp : Hid (Pk.Sl p (.slice a1 n1 c1) w)) (v : By) (hv : Hid (Pk.Sl v (.slice a2 n2 c2) w)) (hv2 : Hid (n2 = v.length)) (hP : P.length ≤ 4194304) (S : Nat → Prop) (ks : List Nd) (vs : List V4) (gk off : Nat) (hl : Hid (ks.length = 16)) (hl2 : Hid (vs.length = 16)) (hk : Hid (Ks S vs (.slice (some ⟨gk,off,none⟩) 16 c3) w)) (hi : Hid (∀ j,j < 16 → Nv S w (ks.getD j Nd.no) (vs.getD j n4)))
  (KR : Hid (∀ j,j < 16 → ∀ (u : V4) (wx : World),Nv S wx (ks.getD j Nd.no) u → Calls Tryz.prog 41 #[v4 u,.string (st (P ++ [UInt8.ofNat j]))] wx fun e w' => RT (ks.getD j Nd.no) (P ++ [UInt8.ofNat j]) e w' ∧ Below wx.heap.size wx w')) (HN : Hid (∀ j L a,j < 16 → rtk 0 (ks.take j) = some L → rt (ks.getD j Nd.no) = some a → 1 + L.length + a.length ≤ 4194304)) (he : Hid (v = [])) :
  Calls Tryz.prog 41 #[.agg #[.int .i64 3,.slice a1 n1 c1,.slice a2 n2 c2,.slice (some ⟨gk,off,none⟩) 16 c3],.string (st P)] w fun e w' => RT (.mk 3 p v ks) P e w' ∧ Below w.heap.size w w' := by
 have B0 : Below w.heap.size w (w.alloc (.cells #[.int .i64 3,.slice a1 n1 c1,.slice a2 n2 c2,.slice (some ⟨gk,off,none⟩) 16 c3] 25)) := (Below.refl _ _).alloc (Nat.le_refl _) _; have HA := heap_alloc_new w (.cells #[.int .i64 3,.slice a1 n1 c1,.slice a2 n2 c2,.slice (some ⟨gk,off,none⟩) 16 c3] 25); have q0 : (w.alloc (.cells #[.int .i64 3,.slice a1 n1 c1,.slice a2 n2 c2,.slice (some ⟨gk,off,none⟩) 16 c3] 25)).cell? ⟨w.heap.size,0,none⟩ = some (.int .i64 3) := by simp only [World.cell?,HA]; rfl
 have q1 : (w.alloc (.cells #[.int .i64 3,.slice a1 n1 c1,.slice a2 n2 c2,.slice (some ⟨gk,off,none⟩) 16 c3] 25)).cell? ⟨w.heap.size,1,none⟩ = some (.slice a1 n1 c1) := by simp only [World.cell?,HA]; rfl
 have q2 : (w.alloc (.cells #[.int .i64 3,.slice a1 n1 c1,.slice a2 n2 c2,.slice (some ⟨gk,off,none⟩) 16 c3] 25)).cell? ⟨w.heap.size,2,none⟩ = some (.slice a2 n2 c2) := by simp only [World.cell?,HA]; rfl
 have q3 : (w.alloc (.cells #[.int .i64 3,.slice a1 n1 c1,.slice a2 n2 c2,.slice (some ⟨gk,off,none⟩) 16 c3] 25)).cell? ⟨w.heap.size,3,none⟩ = some (.slice (some ⟨gk,off,none⟩) 16 c3) := by simp only [World.cell?,HA]; rfl
 have hh : w.heap.size < (w.alloc (.cells #[.int .i64 3,.slice a1 n1 c1,.slice a2 n2 c2,.slice (some ⟨gk,off,none⟩) 16 c3] 25)).heap.size := by simp
 have SP : Hid (Pk.Sl p (.slice a1 n1 c1) (w.alloc (.cells #[.int .i64 3,.slice a1 n1 c1,.slice a2 n2 c2,.slice (some ⟨gk,off,none⟩) 16 c3] 25))) := Pk.Sl_below hp.out B0; clear HA; have SV : Hid (Pk.Sl v (.slice a2 n2 c2) (w.alloc (.cells #[.int .i64 3,.slice a1 n1 c1,.slice a2 n2 c2,.slice (some ⟨gk,off,none⟩) 16 c3] 25))) := Pk.Sl_below hv.out B0; have HCP : Hid (∀ (j : Nat) (W : World),(Op.stringOp .add (st P) (st [UInt8.ofNat j])).run Tryz.prog W = .ok (.string (st (P ++ [UInt8.ofNat j]))) W) := fun j W => cat_st P _ (by simp; omega) W
 have BW : Hid (Below w.heap.size w (w.alloc (.cells #[.int .i64 3,.slice a1 n1 c1,.slice a2 n2 c2,.slice (some ⟨gk,off,none⟩) 16 c3] 25))) := B0; have f1 : n2 = 0 := by rw [hv2.out,he.out]; rfl
 have f2 : ¬ (0 : Int) < (n2 : Int) := by omega
 have f3 : decide ((0 : Int) < (n2 : Int)) = false := decide_eq_false f2; have f4 : decide (0 < n2) = false := decide_eq_false (by omega); clear f1; go_enter Tryz.func41,Tryz.ntmps41
 go_wp2_with fail
 generalize (w.alloc (.cells #[.int .i64 3,.slice a1 n1 c1,.slice a2 n2 c2,.slice (some ⟨gk,off,none⟩) 16 c3] 25)) = W0 at *; generalize hg0 : w.heap.size = g0 at *; go_loopw [16] (fun i wr => ∃ j : Nat,j ≤ n1 ∧ i = .int .i64 (j : Int) ∧ wr = W0) (fun i _ => ((n1 : Int) - intOf i).toNat)
 case atStart => exact ⟨0,Nat.zero_le _,rfl,rfl⟩
 case round =>
  obtain ⟨j,hj,rfl,rfl⟩ := hrel; by_cases hlt : j < n1
  ·have d0 : decide ((j : Int) < (n1 : Int)) = true := decide_eq_true (by omega); have d1 : (0 : Int) ≤ (j : Int) := by omega
   have d2 : (j : Int) < (n1 : Int) := by omega
   obtain ⟨ao,cap,e2,-,hq⟩ := SP.out; injection e2 with e2 e3 e4
   subst e2; obtain ⟨gp,off,rfl,hgp,hcell⟩ := hq (by omega); have x0 := hcell j (by omega); have e5 : Hid (wrap64 ((j : Int) + 1) = ((j + 1 : Nat) : Int)) := by have := hz.out; show _ = _; unfold wrap64; omega
   clear hq hcell e3 e4; go_wp2_with fail
   rw [e5.out]; exact ⟨⟨j + 1,by omega,rfl,by trivial⟩,msr_up j n1 hlt⟩
  ·have d0 : decide ((j : Int) < (n1 : Int)) = false := decide_eq_false (by omega); have O1 : Hid (Ow wr.heap.size (pre P (([] : Rt) ++ [])) (.slice none 0 0) wr) := World.ownsRow_nil _ _ _ _; have B1 : Hid (Below wr.heap.size wr wr) := Below.refl _ _; go_wp2_with fail
   clear f2 f3 f4; generalize hWa : wr = Wa at *; go_loopw [8,98] (fun o i w2 => ∃ (k : Nat) (L : Rt),k ≤ 16 ∧ i = .int .i64 (k : Int) ∧ rtk 0 (ks.take k) = some L ∧ Ow Wa.heap.size (pre P (([] : Rt) ++ L)) o w2 ∧ Below Wa.heap.size Wa w2) (fun _ i _ => ((16 : Int) - intOf i).toNat)
   case atStart => exact ⟨0,[],by omega,rfl,by unfold rtk; rfl,O1.out,B1.out⟩
   case round =>
    obtain ⟨k,L,hk16,rfl,hL,ho,hB⟩ := hrel; have RTS : Hid (rt (.mk 3 p v ks) = (rtk 0 ks).map fun l => ([] : Rt) ++ l) := by
     show _ = _
     rw [rt_three p v ks hl.out]; rw [if_pos he.out]
    by_cases hkl : k < 16
    ·have t0 : decide ((k : Int) < 16) = true := decide_eq_true (by omega); have t1 : (0 : Int) ≤ (k : Int) := by omega
     have t2 : (k : Int) < 16 := by omega
     have BWw : Below w.heap.size w wr := (hg0 ▸ BW.out).trans (hB.mono (hg0 ▸ BW.out).size); obtain ⟨ao,cap,e2,-,hq⟩ := hk.out; obtain ⟨gk',off',e3,-,hgk,hcell⟩ := hq (by have := hl2.out; omega)
     injection e2 with e2 e4 e5
     rw [e3] at e2; injection e2 with e2
     injection e2 with e6 e7
     subst e6 e7; clear e3 e4 e5; obtain ⟨x0,x1,x2,x3⟩ := hcell k (by have := hl2.out; omega)
     have iv := hi.out k hkl; obtain ⟨q,b1,m1,d1,b2,m2,d2,b3,m3,d3,ev⟩ := Nv_form iv; rw [ev] at x0 x1 x2 x3 iv; have z0 := (BWw.cell (p := ⟨gk,off + 4 * k,none⟩) hgk).trans x0; have z1 := (BWw.cell (p := ⟨gk,off + 4 * k + 1,none⟩) hgk).trans x1; have z2 := (BWw.cell (p := ⟨gk,off + 4 * k + 2,none⟩) hgk).trans x2; have z3 := (BWw.cell (p := ⟨gk,off + 4 * k + 3,none⟩) hgk).trans x3; have hgk2 : gk < wr.heap.size := Nat.lt_of_lt_of_le hgk BWw.size; rw [Nat.mul_comm 4 k] at z0 z1 z2 z3; have bA : Below wr.heap.size wr (wr.alloc (.cells #[.int .i64 q,.slice b1 m1 d1,.slice b2 m2 d2,.slice b3 m3 d3] 25)) := (Below.refl _ _).alloc (Nat.le_refl _) _; have IV : Hid (Nv S (wr.alloc (.cells #[.int .i64 q,.slice b1 m1 d1,.slice b2 m2 d2,.slice b3 m3 d3] 25)) (ks.getD k Nd.no) (.int .i64 q,.slice b1 m1 d1,.slice b2 m2 d2,.slice b3 m3 d3)) := Nv_below (Nv_below iv BWw) bA; have OW : Hid (Ow Wa.heap.size (pre P (([] : Rt) ++ L)) _ (wr.alloc (.cells #[.int .i64 q,.slice b1 m1 d1,.slice b2 m2 d2,.slice b3 m3 d3] 25))) := Pk.ownb ho bA; have BX : Hid (Bx wr.heap.size (.int .i64 q,.slice b1 m1 d1,.slice b2 m2 d2,.slice b3 m3 d3) (wr.alloc (.cells #[.int .i64 q,.slice b1 m1 d1,.slice b2 m2 d2,.slice b3 m3 d3] 25))) := Bx_new wr (.int .i64 q,.slice b1 m1 d1,.slice b2 m2 d2,.slice b3 m3 d3); have BB : Hid (Below Wa.heap.size Wa (wr.alloc (.cells #[.int .i64 q,.slice b1 m1 d1,.slice b2 m2 d2,.slice b3 m3 d3] 25))) := hB.trans (bA.mono hB.size); have KB : Hid (∀ wx : World,Nv S wx (ks.getD k Nd.no) (.int .i64 q,.slice b1 m1 d1,.slice b2 m2 d2,.slice b3 m3 d3) → Calls Tryz.prog 41 #[.agg #[.int .i64 q,.slice b1 m1 d1,.slice b2 m2 d2,.slice b3 m3 d3],.string (st (P ++ [UInt8.ofNat k]))] wx fun e w' => RT (ks.getD k Nd.no) (P ++ [UInt8.ofNat k]) e w' ∧ Below wx.heap.size wx w') := fun wx h => KR.out k hkl (.int .i64 q,.slice b1 m1 d1,.slice b2 m2 d2,.slice b3 m3 d3) wx h
     have e8 : IntKind.u8.wrap (k : Int) = (k : Int) := by rw [IntKind.wrap_u8]; omega
     have e9 : Hid (wrap64 ((k : Int) + 1) = ((k + 1 : Nat) : Int)) := by show _ = _; unfold wrap64; omega
     obtain ⟨oa2,on2,oc2,rfl⟩ := own_slice ho; have HLK : Hid (rtk 0 (ks.take k) = some L) := hL; clear hq hcell x0 x1 x2 x3 ev iv BWw bA ho hB hL; go_upto_region 20 with fail
     generalize wr.alloc (.cells #[.int .i64 q,.slice b1 m1 d1,.slice b2 m2 d2,.slice b3 m3 d3] 25) = W1 at *; generalize wr.heap.size = h10 at *; obtain ⟨hx,y0,y1,y2,y3⟩ := BX.out; dsimp only at y0 y1 y2 y3; have bC : Below W1.heap.size W1 (W1.alloc (.cells #[.int .u8 (k : Int)] 5)) := (Below.refl _ _).alloc (Nat.le_refl _) _; have hcs := Sl_st (lit_b k hkl W1); have hcc := HCP.out k (W1.alloc (.cells #[.int .u8 (k : Int)] 5)); have KK : Hid _ := KB.out _ (Nv_below IV.out bC); have OW2 : Hid (Ow _ _ _ _) := Pk.ownb OW.out bC; have BB2 : Hid (Below Wa.heap.size Wa _) := BB.out.trans (bC.mono BB.out.size); clear BX KB IV bC OW BB; generalize st (P ++ [UInt8.ofNat k]) = Y at *; generalize st [UInt8.ofNat k] = C at *; go_wp2_with fail
     refine Calls.mono KK.out (fun e w5 he => ?_)
     obtain ⟨hr,b5⟩ := he; rcases hr with ⟨l,x,hrt,rfl,hrv⟩ | ⟨hrt,rfl⟩
     ·have o5 := Pk.ownb OW2.out b5; obtain ⟨v6,w6,hap,ho6,hb6,-⟩ := app_rv 86 o5 hrv (Nat.le_trans BB2.out.size b5.size) (by
       have := HN.out k L l hkl HLK.out hrt; rw [pre_len',pre_len',List.length_append]; simp only [List.length_nil]; omega)
      have B6 : Hid (Below Wa.heap.size Wa w6) := (BB2.out.trans (b5.mono BB2.out.size)).trans hb6; have O6 : Hid (Ow Wa.heap.size (pre P (([] : Rt) ++ (L ++ pre [UInt8.ofNat k] l))) v6 w6) := by
       have e : pre P (([] : Rt) ++ (L ++ pre [UInt8.ofNat k] l)) = pre P (([] : Rt) ++ L) ++ pre (P ++ [UInt8.ofNat k]) l := by rw [← List.append_assoc,pre_app,pre_pre]
       show Ow _ _ _ _
       rw [e]; exact ho6
      have R6 : Hid (rtk 0 (ks.take (k + 1)) = some (L ++ pre [UInt8.ofNat k] l)) := rtk_take ks k (by have := hl.out; omega) L l HLK.out hrt
      obtain ⟨ax,cx,rfl,-,-⟩ := hrv; obtain ⟨oa6,on6,oc6,rfl⟩ := own_slice ho6; generalize (pre (P ++ [UInt8.ofNat k]) l).length = nx at *; clear KK OW2 BB2 o5 b5 ho6 hb6 hrt HLK; go_wp2_with (at_builtin; refine wpList_apw rfl rfl rfl rfl hap ?_)
      first | rw [e9.out] | rw [show (k : Int) + 1 = ((k + 1 : Nat) : Int) from by omega]
      exact ⟨⟨k + 1,L ++ pre [UInt8.ofNat k] l,by omega,rfl,R6.out,O6.out,B6.out⟩,msr_up k 16 hkl⟩
     ·have B6 : Hid (Below w.heap.size w w5) := by
       show Below _ _ _
       have h1 := BB2.out.trans (b5.mono BB2.out.size); exact (hg0 ▸ BW.out).trans (h1.mono (hg0 ▸ BW.out).size)
      have R6 : Hid (rt (.mk 3 p v ks) = none) := by
       show _ = _
       rw [RTS.out,rtk_bad ks 0 k (by have := hl.out; omega) hrt]
       rfl
      clear KK OW2 BB2 b5 hrt HLK; go_wp2_with fail
      go_ret2
      exact ⟨.inr ⟨R6.out,rfl⟩,by first | exact B6.out | (rw [← hg0]; exact B6.out)⟩
    ·have t0 : decide ((k : Int) < 16) = false := decide_eq_false (by omega); have ek : ks.take k = ks := List.take_of_length_le (by have := hl.out; omega)
     rw [ek] at hL; have R6 : Hid (rt (.mk 3 p v ks) = some (([] : Rt) ++ L)) := by
      show _ = _
      rw [RTS.out,hL]; rfl
     have RV : Hid (Rv (pre P (([] : Rt) ++ L)) _ wr) := own_rv ho; have B6 : Hid (Below w.heap.size w wr) := (hg0 ▸ BW.out).trans (hB.mono (hg0 ▸ BW.out).size); obtain ⟨oa2,on2,oc2,rfl⟩ := own_slice ho; clear ho hL hB; go_wp2_with fail
     go_ret2
     exact ⟨.inl ⟨_,_,R6.out,rfl,RV.out⟩,by first | exact B6.out | (rw [← hg0]; exact B6.out)⟩
end Tr
end Go.Proofs.YtlbdaccmnpcccaaGreatDoor
