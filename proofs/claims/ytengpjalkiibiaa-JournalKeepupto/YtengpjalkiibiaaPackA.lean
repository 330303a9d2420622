/- journal (pure): whole values one behind the other; what was done, and how it is taken back; keys in order. -/
import Derived.WalkKit
import Derived.Orders
import Derived.Shelf.Small.Bits
import Derived.Shelf.Strconv.Itoa0
import Derived.Test.YtengpjalkiibiaaProg
import Derived.Maps.OwnSet
import Derived.Maps.AppendAt
import Derived.Deep.AppendLies
import Derived.Deep.Cut
import Derived.Tactics
import Derived.Below
namespace Go.Proofs.Ytengpjalkiibiaa
namespace Jn
abbrev Fn := Nat → Nat
abbrev JO := Int × Nat × Nat
abbrev JA := Int × Nat
def upd (f : Fn) (k v : Nat) : Fn := fun j => if j = k then v else f j
/-- One operation: the values now, and those at each mark, the last one first. -/
def step (o : JO) (t : Fn) (s : List Fn) : JA × Fn × List Fn :=
  if o.1 = 1 then ((0, 0), upd t o.2.1 o.2.2, s)
  else if o.1 = 2 then ((0, t o.2.1), t, s)
  else if o.1 = 3 then ((0, s.length + 1), t, t :: s)
  else if o.1 = 4 then match s with
    | [] => ((31, 0), t, [])
    | u :: r => ((0, r.length), u, r)
  else if o.1 = 5 then match s with
    | [] => ((31, 0), t, [])
    | _ :: r => ((0, r.length), t, r)
  else ((30, 0), t, s)
def run : List JO → Fn → List Fn → List JA × Fn × List Fn
  | [], t, s => ([], t, s)
  | o :: r, t, s => let x := step o t s; let y := run r x.2.1 x.2.2; (x.1 :: y.1, y.2.1, y.2.2)
theorem run_app : ∀ (a b : List JO) (t : Fn) (s : List Fn), run (a ++ b) t s = ((run a t s).1 ++ (run b (run a t s).2.1 (run a t s).2.2).1, (run b (run a t s).2.1 (run a t s).2.2).2.1, (run b (run a t s).2.1 (run a t s).2.2).2.2)
  | [], b, t, s => rfl
  | o :: r, b, t, s => by
    have ih := run_app r b (step o t s).2.1 (step o t s).2.2
    show ((step o t s).1 :: (run (r ++ b) (step o t s).2.1 (step o t s).2.2).1, (run (r ++ b) (step o t s).2.1 (step o t s).2.2).2) = _
    rw [ih]
    rfl
theorem run_len : ∀ (a : List JO) (t : Fn) (s : List Fn), (run a t s).1.length = a.length
  | [], _, _ => rfl
  | o :: r, t, s => by
    show ((step o t s).1 :: (run r (step o t s).2.1 (step o t s).2.2).1).length = _
    rw [List.length_cons, run_len r, List.length_cons]
/-- Words stay words. -/
def WF (t : Fn) : Prop := ∀ k, t k < 18446744073709551616
def WO (o : JO) : Prop := o.2.1 < 18446744073709551616 ∧ o.2.2 < 18446744073709551616
theorem upd_wf {t : Fn} {k v : Nat} (h : WF t) (hv : v < 18446744073709551616) : WF (upd t k v) := fun j => by
  unfold upd
  split
  · exact hv
  · exact h j
theorem step_wf {o : JO} {t : Fn} {s : List Fn} (ho : WO o) (ht : WF t) (hs : ∀ u, u ∈ s → WF u) : WF (step o t s).2.1 ∧ ∀ u, u ∈ (step o t s).2.2 → WF u := by
  unfold step
  split
  · exact ⟨upd_wf ht ho.2, hs⟩
  split
  · exact ⟨ht, hs⟩
  split
  · exact ⟨ht, fun u hu => by rcases List.mem_cons.1 hu with rfl | h; exact ht; exact hs u h⟩
  split
  · cases s with
    | nil => exact ⟨ht, hs⟩
    | cons u r => exact ⟨hs u List.mem_cons_self, fun x hx => hs x (List.mem_cons_of_mem _ hx)⟩
  split
  · cases s with
    | nil => exact ⟨ht, hs⟩
    | cons u r => exact ⟨ht, fun x hx => hs x (List.mem_cons_of_mem _ hx)⟩
  · exact ⟨ht, hs⟩
/-- What was done since the first mark: of each key what it had. -/
abbrev Ps := List (Nat × Nat)
def und (c : Nat × Nat) (f : Fn) : Fn := upd f c.1 c.2
def Rl : Fn → Ps → List Nat → List Fn → Prop
  | _, p, [], [] => p = []
  | t, p, m :: ms, u :: s => m ≤ p.length ∧ u = (p.drop m).foldr und t ∧ Rl u (p.take m) ms s
  | _, _, _, _ => False
theorem Rl_len : ∀ {ms : List Nat} {s : List Fn} {t : Fn} {p : Ps}, Rl t p ms s → ms.length = s.length
  | [], [], _, _, _ => rfl
  | _ :: ms, _ :: s, _, _, h => by rw [List.length_cons, List.length_cons, Rl_len h.2.2]
  | [], _ :: _, _, _, h => h.elim
  | _ :: _, [], _, _, h => h.elim
theorem und_upd (t : Fn) (k v : Nat) : und (k, t k) (upd t k v) = t := by
  funext j
  unfold und upd
  dsimp only
  by_cases h : j = k
  · rw [if_pos h, h]
  · rw [if_neg h, if_neg h]
theorem Rl_set {t : Fn} {p : Ps} {m : Nat} {ms : List Nat} {s : List Fn} (h : Rl t p (m :: ms) s) (k v : Nat) : Rl (upd t k v) (p ++ [(k, t k)]) (m :: ms) s := by
  cases s with
  | nil => exact h.elim
  | cons u s =>
    obtain ⟨h1, h2, h3⟩ := h
    refine ⟨by rw [List.length_append]; omega, ?_, ?_⟩
    · rw [List.drop_append_of_le_length h1, List.foldr_append, h2]
      show _ = List.foldr und (und (k, t k) (upd t k v)) _
      rw [und_upd]
    · rw [List.take_append_of_le_length h1]
      exact h3
theorem Rl_set0 {t : Fn} {p : Ps} {s : List Fn} (h : Rl t p [] s) (k v : Nat) : Rl (upd t k v) p [] s := by
  cases s with
  | nil => exact h
  | cons u s => exact h.elim
theorem Rl_mark {t : Fn} {p : Ps} {ms : List Nat} {s : List Fn} (h : Rl t p ms s) : Rl t p (p.length :: ms) (t :: s) := ⟨Nat.le_refl _, by rw [List.drop_length]; rfl, by rw [List.take_length]; exact h⟩
theorem Rl_back {t u : Fn} {p : Ps} {m : Nat} {ms : List Nat} {s : List Fn} (h : Rl t p (m :: ms) (u :: s)) : Rl ((p.drop m).foldr und t) (p.take m) ms s := by
  rw [← h.2.1]
  exact h.2.2
theorem Rl_keep {t u : Fn} {p : Ps} {m m2 : Nat} {ms : List Nat} {s : List Fn} (h : Rl t p (m :: m2 :: ms) (u :: s)) : Rl t p (m2 :: ms) s := by
  obtain ⟨h1, h2, h3⟩ := h
  cases s with
  | nil => exact h3.elim
  | cons u2 s =>
    obtain ⟨k1, k2, k3⟩ := h3
    rw [List.length_take] at k1
    refine ⟨by omega, ?_, ?_⟩
    · rw [k2, h2, ← List.foldr_append]
      congr 1
      have e := List.drop_append_of_le_length (l₁ := p.take m) (l₂ := p.drop m) (i := m2) (by rw [List.length_take]; omega)
      rw [List.take_append_drop] at e
      exact e.symm
    · rw [List.take_take, Nat.min_eq_left (by omega)] at k3
      exact k3
/-- The marks rise. -/
theorem Rl_le {t : Fn} {p : Ps} {m : Nat} {ms : List Nat} {s : List Fn} (h : Rl t p (m :: ms) s) : m ≤ p.length := by
  cases s with
  | nil => exact h.elim
  | cons u s => exact h.1
theorem Rl_bot {t : Fn} {p : Ps} {m : Nat} {s : List Fn} (h : Rl t p [m] s) : m = 0 := by
  cases s with
  | nil => exact h.elim
  | cons u s =>
    cases s with
    | nil =>
      obtain ⟨h1, _, h3⟩ := h
      have h4 : p.take m = [] := h3
      have := congrArg List.length h4
      rw [List.length_take, List.length_nil] at this
      omega
    | cons _ _ => exact h.2.2.elim
/-- The pairs of f, the lesser key first. -/
def Prs (f : Fn) (l : List (Nat × Nat)) : Prop := l.Pairwise (fun a b => a.1 < b.1) ∧ ∀ k v, (k, v) ∈ l ↔ (f k = v ∧ v ≠ 0)
theorem prs_tl {f : Fn} {x : Nat × Nat} {l : List (Nat × Nat)} (h : Prs f (x :: l)) : Prs (upd f x.1 0) l := by
  obtain ⟨h1, h2⟩ := h
  rw [List.pairwise_cons] at h1
  refine ⟨h1.2, fun k v => ?_⟩
  unfold upd
  constructor
  · intro hm
    have hk : x.1 < k := h1.1 _ hm
    rw [if_neg (by omega)]
    exact (h2 k v).1 (List.mem_cons_of_mem _ hm)
  · rintro ⟨e, hv⟩
    split at e
    · exact absurd e.symm hv
    · rcases List.mem_cons.1 ((h2 k v).2 ⟨e, hv⟩) with h | h
      · rename_i hk
        exact absurd (by rw [← h]) hk
      · exact h
theorem prs_one : ∀ {l m : List (Nat × Nat)} {f : Fn}, Prs f l → Prs f m → l = m
  | [], [], _, _, _ => rfl
  | x :: l, [], f, h, k => by
    have := (k.2 x.1 x.2).2 ((h.2 x.1 x.2).1 List.mem_cons_self)
    cases this
  | [], y :: m, f, h, k => by
    have := (h.2 y.1 y.2).2 ((k.2 y.1 y.2).1 List.mem_cons_self)
    cases this
  | x :: l, y :: m, f, h, k => by
    have e1 := (k.2 x.1 x.2).2 ((h.2 x.1 x.2).1 List.mem_cons_self)
    have e2 := (h.2 y.1 y.2).2 ((k.2 y.1 y.2).1 List.mem_cons_self)
    have e : x = y := by
      rcases List.mem_cons.1 e1 with h1 | h1
      · exact h1
      · rcases List.mem_cons.1 e2 with h2 | h2
        · exact h2.symm
        · have a := (List.pairwise_cons.1 k.1).1 _ h1
          have b := (List.pairwise_cons.1 h.1).1 _ h2
          dsimp only at a b
          omega
    subst e
    rw [prs_one (prs_tl h) (prs_tl k)]
/-- inner: what takes back no more than it has marked itself; d: how deep it is. -/
def inn : Nat → List JO → List JO × Nat
  | d, [] => ([], d)
  | d, o :: r =>
    if o.1 = 4 ∨ o.1 = 5 then
      if d = 0 then inn 0 r
      else let y := inn (d - 1) r; (o :: y.1, y.2)
    else if o.1 = 3 then let y := inn (d + 1) r; (o :: y.1, y.2)
    else let y := inn d r; (o :: y.1, y.2)
def bk : JO := (4, 0, 0)
def inner (l : List JO) : List JO := (inn 0 l).1 ++ List.replicate (inn 0 l).2 bk
/-- What an inner text does hangs on nothing below. -/
theorem inn_run : ∀ (l : List JO) (d : Nat) (t : Fn) (e : List Fn), e.length = d → ∃ (t' : Fn) (e' : List Fn), e'.length = (inn d l).2 ∧ ∀ s, (run (inn d l).1 t (e ++ s)).2 = (t', e' ++ s)
  | [], d, t, e, h => ⟨t, e, h, fun s => rfl⟩
  | o :: r, d, t, e, h => by
    by_cases h1 : o.1 = 4 ∨ o.1 = 5
    · by_cases h2 : d = 0
      · subst h2
        have e1 : inn 0 (o :: r) = inn 0 r := by simp [inn, h1]
        rw [e1]
        exact inn_run r 0 t e h
      · have e1 : inn d (o :: r) = (o :: (inn (d - 1) r).1, (inn (d - 1) r).2) := by simp [inn, h1, h2]
        rw [e1]
        cases e with
        | nil => exact absurd h.symm h2
        | cons u e =>
          rcases h1 with h4 | h5
          · obtain ⟨t', e', k1, k2⟩ := inn_run r (d - 1) u e (by simp at h; omega)
            refine ⟨t', e', k1, fun s => ?_⟩
            have es : step o t (u :: e ++ s) = ((0, (e ++ s).length), u, e ++ s) := by simp [step, h4]
            show (run (inn (d - 1) r).1 (step o t (u :: e ++ s)).2.1 (step o t (u :: e ++ s)).2.2).2 = _
            rw [es]
            exact k2 s
          · obtain ⟨t', e', k1, k2⟩ := inn_run r (d - 1) t e (by simp at h; omega)
            refine ⟨t', e', k1, fun s => ?_⟩
            have es : step o t (u :: e ++ s) = ((0, (e ++ s).length), t, e ++ s) := by simp [step, h5]
            show (run (inn (d - 1) r).1 (step o t (u :: e ++ s)).2.1 (step o t (u :: e ++ s)).2.2).2 = _
            rw [es]
            exact k2 s
    · by_cases h3 : o.1 = 3
      · have e1 : inn d (o :: r) = (o :: (inn (d + 1) r).1, (inn (d + 1) r).2) := by simp [inn, h3]
        rw [e1]
        obtain ⟨t', e', k1, k2⟩ := inn_run r (d + 1) t (t :: e) (by simp [h])
        refine ⟨t', e', k1, fun s => ?_⟩
        have es : step o t (e ++ s) = ((0, (e ++ s).length + 1), t, t :: e ++ s) := by simp [step, h3]
        show (run (inn (d + 1) r).1 (step o t (e ++ s)).2.1 (step o t (e ++ s)).2.2).2 = _
        rw [es]
        exact k2 s
      · have e1 : inn d (o :: r) = (o :: (inn d r).1, (inn d r).2) := by simp [inn, h1, h3]
        rw [e1]
        have es : ∃ a t2, ∀ s, step o t (e ++ s) = (a, t2, e ++ s) := by
          have n4 : o.1 ≠ 4 := fun h => h1 (.inl h)
          have n5 : o.1 ≠ 5 := fun h => h1 (.inr h)
          by_cases g1 : o.1 = 1
          · exact ⟨(0, 0), upd t o.2.1 o.2.2, fun s => by simp [step, g1]⟩
          · by_cases g2 : o.1 = 2
            · exact ⟨(0, t o.2.1), t, fun s => by simp [step, g2]⟩
            · exact ⟨(30, 0), t, fun s => by simp [step, g1, g2, h3, n4, n5]⟩
        obtain ⟨a, t2, es⟩ := es
        obtain ⟨t', e', k1, k2⟩ := inn_run r d t2 e h
        refine ⟨t', e', k1, fun s => ?_⟩
        show (run (inn d r).1 (step o t (e ++ s)).2.1 (step o t (e ++ s)).2.2).2 = _
        rw [es]
        exact k2 s
theorem back_run : ∀ (d : Nat) (t : Fn) (e : List Fn), e.length = d → ∃ t', ∀ s, (run (List.replicate d bk) t (e ++ s)).2 = (t', s)
  | 0, t, e, h => by
    cases e with
    | nil => exact ⟨t, fun s => rfl⟩
    | cons _ _ => cases h
  | d + 1, t, e, h => by
    cases e with
    | nil => cases h
    | cons u e =>
      obtain ⟨t', k⟩ := back_run d u e (by simpa using h)
      exact ⟨t', fun s => k s⟩
theorem inner_run (l : List JO) (t : Fn) : ∃ t', ∀ s, (run (inner l) t s).2 = (t', s) := by
  obtain ⟨t1, e, k1, k2⟩ := inn_run l 0 t [] rfl
  obtain ⟨t', k3⟩ := back_run _ t1 e k1
  refine ⟨t', fun s => ?_⟩
  unfold inner
  rw [run_app]
  have k2' := k2 s
  rw [List.nil_append] at k2'
  have a1 : (run (inn 0 l).1 t s).2.1 = t1 := by rw [k2']
  have a2 : (run (inn 0 l).1 t s).2.2 = e ++ s := by rw [k2']
  dsimp only
  rw [a1, a2]
  exact k3 s
def z0 : Fn := fun _ => 0
/-- What is taken back leaves no trace. -/
theorem law_back (a b c : List JO) : (run (a ++ [(3, 0, 0)] ++ inner b ++ [bk] ++ c) z0 []).1.drop (a.length + (inner b).length + 2) = (run (a ++ c) z0 []).1.drop a.length ∧
    (run (a ++ [(3, 0, 0)] ++ inner b ++ [bk] ++ c) z0 []).2 = (run (a ++ c) z0 []).2 := by
  obtain ⟨t', k⟩ := inner_run b (run a z0 []).2.1
  have k1 := k ((run a z0 []).2.1 :: (run a z0 []).2.2)
  simp only [run_app]
  have e3 : ∀ t s, run [((3 : Int), (0 : Nat), (0 : Nat))] t s = ([(0, s.length + 1)], t, t :: s) := fun t s => rfl
  have e4 : ∀ t u s, run [bk] t (u :: s) = ([(0, s.length)], u, s) := fun t u s => rfl
  simp only [e3]
  rw [k1]
  simp only [e4]
  refine ⟨?_, trivial⟩
  rw [List.drop_left' (run_len _ _ _), List.drop_left']
  simp [run_len]
  omega
/-- What is kept is as if there had been no mark. -/
theorem law_keep (a b c : List JO) : (run (a ++ [(3, 0, 0)] ++ inner b ++ [(5, 0, 0)] ++ c) z0 []).1.drop (a.length + (inner b).length + 2) = (run (a ++ inner b ++ c) z0 []).1.drop (a.length + (inner b).length) ∧
    (run (a ++ [(3, 0, 0)] ++ inner b ++ [(5, 0, 0)] ++ c) z0 []).2 = (run (a ++ inner b ++ c) z0 []).2 := by
  obtain ⟨t', k⟩ := inner_run b (run a z0 []).2.1
  have k1 := k ((run a z0 []).2.1 :: (run a z0 []).2.2)
  have k2 := k (run a z0 []).2.2
  simp only [run_app]
  have e3 : ∀ t s, run [((3 : Int), (0 : Nat), (0 : Nat))] t s = ([(0, s.length + 1)], t, t :: s) := fun t s => rfl
  have e5 : ∀ t u s, run [((5 : Int), (0 : Nat), (0 : Nat))] t (u :: s) = ([(0, s.length)], t, s) := fun t u s => rfl
  simp only [e3]
  rw [k1, k2]
  simp only [e5]
  refine ⟨?_, trivial⟩
  rw [List.drop_left', List.drop_left']
  · simp [run_len]
  · simp [run_len]
    omega
end Jn
end Go.Proofs.Ytengpjalkiibiaa
/- A region that draws its order, by what holds of what is done: one walk an operation, whatever the order. -/
namespace Go.Proofs.Ytengpjalkiibiaa
namespace RI
/-- What is done, with i done too. -/
def don (d : Nat → Bool) (i j : Nat) : Bool := if j = i then true else d j
theorem don_same (d : Nat → Bool) (i : Nat) : don d i i = true := by simp [don]
theorem don_other (d : Nat → Bool) (i j : Nat) (h : j ≠ i) : don d i j = d j := by simp [don, h]
theorem keep {d : Nat → Bool} {i j : Nat} {p : Prop} (hne : j ≠ i) (h : d j = true → p) : don d i j = true → p := fun k => h (by rwa [don_other _ _ _ hne] at k)
/-- Operation i may come up. -/
def may (ops : Array Oper) (d : Nat → Bool) (i : Nat) : Prop := d i = false ∧ ∀ o, ops[i]? = some o → (o.after.all fun e => !Region.binds .any e || d e.on) = true
def dof (l : Array Bool) (j : Nat) : Bool := l.getD j false
theorem dof_set (l : Array Bool) (i : Nat) (hi : i < l.size) : dof (l.setIfInBounds i true) = don (dof l) i := by
  funext j
  unfold dof don
  by_cases e : j = i
  · subst e; simp [hi]
  · simp only [Array.getD_eq_getD_getElem?, Array.getElem?_setIfInBounds]
    rw [if_neg (fun h => e h.symm), if_neg e]
theorem ready_iff (ops : Array Oper) (l : Array Bool) (i : Nat) (hl : l.size = ops.size) : i ∈ Region.ready .any ops l ↔ i < ops.size ∧ may ops (dof l) i := by
  unfold Region.ready may dof
  rw [List.mem_filter, List.mem_range]
  constructor
  · rintro ⟨h1, h2⟩
    refine ⟨h1, ?_, ?_⟩
    · simp [show i < l.size by omega] at h2 ⊢; exact h2.1
    · intro o ho; simp [ho] at h2; simpa using h2.2
  · rintro ⟨h1, h2, h3⟩
    refine ⟨h1, ?_⟩
    have h4 := h3 ops[i] (Array.getElem?_eq_getElem h1)
    simp [h1, show i < l.size by omega] at h2 h4 ⊢
    exact ⟨h2, h4⟩
/-- How many of the first n are not done. -/
def un (d : Nat → Bool) : Nat → Nat
  | 0 => 0
  | n + 1 => un d n + if d n then 0 else 1
theorem un_don (d : Nat → Bool) (i : Nat) : ∀ n, (n ≤ i → un (don d i) n = un d n) ∧ (i < n → d i = false → un (don d i) n + 1 = un d n)
  | 0 => ⟨fun _ => rfl, fun h => absurd h (by omega)⟩
  | n + 1 => by
    obtain ⟨h1, h2⟩ := un_don d i n
    refine ⟨fun h => ?_, fun h hd => ?_⟩
    · rw [un, un, h1 (by omega), don_other _ _ _ (by omega)]
    · by_cases e : n = i
      · subst e; rw [un, un, h1 (Nat.le_refl _), don_same, hd]; simp
      · rw [un, un, don_other _ _ _ e, ← h2 (by omega) hd]; omega
theorem un_zero (d : Nat → Bool) : ∀ n, un d n = 0 → ∀ j, j < n → d j = true
  | 0, _, _, h => absurd h (by omega)
  | n + 1, h, j, hj => by
    rw [un] at h
    by_cases e : j = n
    · subst e
      cases hd : d j with
      | true => rfl
      | false => rw [hd] at h; simp at h
    · exact un_zero d n (by omega) j (by omega)
theorem un_all (n : Nat) : un (fun _ => false) n = n := by
  induction n with
  | zero => rfl
  | succ n ih => rw [un, ih]; rfl
/-- Each operation leans on earlier ones alone. -/
def early (ops : Array Oper) : Bool := (List.range ops.size).all fun i => ((ops[i]?).map fun o => o.after.all fun e => !Region.binds .any e || decide (e.on < i)).getD true
theorem all_done (ops : Array Oper) (he : early ops = true) (d : Nat → Bool) (h : ∀ i, i < ops.size → ¬ may ops d i) : ∀ i, i < ops.size → d i = true := by
  intro i
  induction i using Nat.strongRecOn with
  | _ i ih =>
    intro hi
    cases hd : d i with
    | true => rfl
    | false =>
      refine absurd ⟨hd, fun o ho => ?_⟩ (h i hi)
      have h1 := (List.all_eq_true.1 he) i (List.mem_range.2 hi)
      rw [ho] at h1
      simp only [Option.map_some, Option.getD_some, Array.all_eq_true_iff_forall_mem] at h1
      rw [Array.all_eq_true_iff_forall_mem]
      intro e hee
      have h2 := h1 e hee
      cases hb : Region.binds .any e with
      | false => rfl
      | true =>
        rw [hb] at h2
        simp at h2
        rw [ih e.on h2 (by omega)]
        rfl
section
variable {P : Program} {ops : Array Oper} {Q : Exit → Act → World → Prop}
theorem wpAny_inv (I : (Nat → Bool) → Act → World → Prop) (he : early ops = true)
    (hstep : ∀ d a w i, I d a w → i < ops.size → may ops d i → wpOp P ops Q i (I (don d i)) a w)
    (hend : ∀ d a w, I d a w → (∀ i, i < ops.size → d i = true) → Q .normal a w) :
    ∀ fuel l a w, l.size = ops.size → un (dof l) ops.size ≤ fuel → I (dof l) a w → wpAny P .any ops Q fuel l a w
  | 0, l, a, w, hl, hu, hI => by
    have hd := un_zero (dof l) ops.size (by omega)
    refine ⟨?_, hend _ a w hI hd⟩
    rw [List.eq_nil_iff_forall_not_mem]
    intro i hi
    obtain ⟨h1, h2⟩ := (ready_iff ops l i hl).1 hi
    have := hd i h1
    rw [h2.1] at this; cases this
  | fuel + 1, l, a, w, hl, hu, hI => by
    refine ⟨fun hr => hend _ a w hI (all_done ops he _ fun i h1 h2 => ?_), fun i hi => ?_⟩
    · have := (ready_iff ops l i hl).2 ⟨h1, h2⟩
      rw [hr] at this; cases this
    · obtain ⟨h1, h2⟩ := (ready_iff ops l i hl).1 hi
      refine wpOp_mono (fun a' w' h => ?_) (hstep _ a w i hI h1 h2)
      have e := dof_set l i (by omega)
      refine wpAny_inv I he hstep hend fuel _ a' w' (by simpa using hl) ?_ (by rw [e]; exact h)
      rw [e]
      have := (un_don (dof l) i ops.size).2 h1 h2.1
      omega
/-- The law: I holds ahead of all, each operation that may come up keeps it, and it ends well where all are done. -/
theorem wp_region_inv {id : Nat} {a : Act} {w : World} (I : (Nat → Bool) → Act → World → Prop) (hm : P.follows .mixedOrders = true) (he : early ops = true) (h0 : I (fun _ => false) a w.drew)
    (hstep : ∀ d a w i, I d a w → i < ops.size → may ops d i → wpOp P ops Q i (I (don d i)) a w)
    (hend : ∀ d a w, I d a w → (∀ i, i < ops.size → d i = true) → Q .normal a w) : (Code.region id ops true).wp P Q a w := by
  refine wp_region_any hm (wpAny_inv I he hstep hend ops.size _ a _ (by simp) ?_ ?_)
  · have e : dof (Array.replicate ops.size false) = fun _ => false := by
      funext j
      unfold dof
      by_cases h : j < ops.size <;> simp [h]
    rw [e, un_all]; exact Nat.le_refl _
  · have e : dof (Array.replicate ops.size false) = fun _ => false := by
      funext j
      unfold dof
      by_cases h : j < ops.size <;> simp [h]
    rw [e]; exact h0
theorem wpOp_plain {i : Nat} {o : Oper} {K : Act → World → Prop} {a : Act} {w : World} (ho : ops[i]? = some o) (hg : o.guard = none) (h : o.wp P a w K Q) : wpOp P ops Q i K a w := by
  unfold wpOp
  rw [ho]
  have hw : Region.wanted o (yielded ops a.tmps) = true := by simp [Region.wanted, hg]
  simp only [hw, if_true]
  exact .inl h
theorem wpOp_guard {i j : Nat} {v : Bool} {o : Oper} {K : Act → World → Prop} {a : Act} {w : World} (ho : ops[i]? = some o) (hg : o.guard = some (j, v)) (hy : yielded ops a.tmps j = some v) (h : o.wp P a w K Q) : wpOp P ops Q i K a w := by
  unfold wpOp
  rw [ho]
  have hw : Region.wanted o (yielded ops a.tmps) = true := by simp [Region.wanted, hg, hy]
  simp only [hw, if_true]
  exact .inl h
end
end RI
end Go.Proofs.Ytengpjalkiibiaa
/- A region that draws its order, walked in the order of its text: where each operation looks only at slots that stand fast by then, and gives one value whatever the order. -/
namespace Go.Proofs.Ytengpjalkiibiaa
namespace RS
open RI
/-- What an operation comes to, by its value alone. -/
def upv (P : Program) (K : Value → World → Prop) : Result Next → Prop
  | .ok (.value v) w => K v w
  | .ok .skip w => K undef w
  | .ok (.enter f args) w => Calls P f args w fun e w' => ∃ v, e = .returned v ∧ K v w'
  | .ok (.row row args) w => Rows P row args w K
  | _ => False
@[simp] theorem upv_value (P : Program) (K : Value → World → Prop) (v : Value) (w : World) : upv P K (.ok (.value v) w) = K v w := rfl
@[simp] theorem upv_skip (P : Program) (K : Value → World → Prop) (w : World) : upv P K (.ok .skip w) = K undef w := rfl
@[simp] theorem upv_enter (P : Program) (K : Value → World → Prop) (f : FuncId) (args : Array Value) (w : World) : upv P K (.ok (.enter f args) w) = Calls P f args w fun e w' => ∃ v, e = .returned v ∧ K v w' := rfl
/-- What operation i, at frame a, must do: come to v, and keep the world well. -/
def Step (P : Program) (ops : Array Oper) (I : (Nat → Bool) → World → Prop) (i : Nat) (o : Oper) (v : Value) (a : Act) : Prop :=
  (Region.wanted o (yielded ops a.tmps) = true ∧ ∀ (K : Value → World → Prop) d w, I d w → may ops d i → (∀ w', I (don d i) w' → K v w') → upv P K ((execOp a.eval o).run P w)) ∨
  (Region.wanted o (yielded ops a.tmps) = false ∧ v = undef ∧ ∀ d w, I d w → may ops d i → I (don d i) w)
/-- The walk in the text's order. -/
def Seq (P : Program) (ops : Array Oper) (I : (Nat → Bool) → World → Prop) (E : Act → Prop) : Nat → List Oper → Act → Prop
  | _, [], a => E a
  | i, o :: r, a => ∃ v, Step P ops I i o v a ∧ Seq P ops I E (i + 1) r (a.put o.dst v)
def bindsOn (o : Oper) (j : Nat) : Bool := o.after.any fun e => Region.binds .any e && e.on == j
def isSel : Op → Bool
  | .select _ _ => true
  | _ => false
/-- Of two operations: unlike slots are written; and one that looks at what the other writes is bound to it. -/
def pairOk (ops : Array Oper) (i j : Nat) : Bool :=
  match ops[i]?, ops[j]? with
  | some x, some y =>
    match y.dst with
    | none => true
    | some t => (x.dst != some t || i == j) && (!(x.looksAt ops).contains t || (decide (j < i) && bindsOn x j) || (decide (i < j) && bindsOn y i))
  | _, _ => true
def okOps (ops : Array Oper) : Bool :=
  RI.early ops && (List.range ops.size).all fun i => ((ops[i]?).map fun o => !isSel o.op).getD true && (List.range ops.size).all fun j => pairOk ops i j
/-- The frame behind those of the first k operations that are done. -/
def fr (ops : Array Oper) (V : Nat → Value) (d : Nat → Bool) (a : Act) : Nat → Act
  | 0 => a
  | k + 1 => if d k then (fr ops V d a k).put ((ops[k]?).bind (·.dst)) (V k) else fr ops V d a k
def tt : Nat → Bool := fun _ => true
variable {P : Program} {ops : Array Oper} {Q : Exit → Act → World → Prop}
theorem put_get (a : Act) (x : Option Tmp) (v : Value) (t : Nat) : (a.put x v).tmps[t]? = if x = some t then (if t < a.tmps.size then some v else none) else a.tmps[t]? := by
  cases x with
  | none => simp [Act.put]
  | some d =>
    simp only [Act.put, Array.getElem?_setIfInBounds]
    by_cases e : d = t
    · subst e; simp
    · simp [e]
theorem get_size {a b : Act} {t : Nat} (h : a.tmps[t]? = b.tmps[t]?) : (t < a.tmps.size) = (t < b.tmps.size) := by
  apply propext
  have ha := Array.getElem?_eq_none_iff (xs := a.tmps) (i := t)
  have hb := Array.getElem?_eq_none_iff (xs := b.tmps) (i := t)
  rw [h] at ha
  have := ha.symm.trans hb
  omega
theorem fr_congr (V : Nat → Value) (a : Act) (d e : Nat → Bool) : ∀ k, (∀ j, j < k → d j = e j) → fr ops V d a k = fr ops V e a k
  | 0, _ => rfl
  | k + 1, h => by rw [fr, fr, fr_congr V a d e k (fun j hj => h j (by omega)), h k (by omega)]
/-- What a slot holds, where its writer stands fast. -/
theorem fr_get (V : Nat → Value) (a : Act) (d : Nat → Bool) (i t : Nat) : ∀ k, (∀ j, j < k → (ops[j]?).bind (·.dst) = some t → (j < i ∧ d j = true) ∨ (i < j ∧ d j = false)) → (fr ops V d a k).tmps[t]? = (fr ops V tt a (min k i)).tmps[t]?
  | 0, _ => by simp [fr]
  | k + 1, h => by
    have ih := fr_get V a d i t k (fun j hj => h j (by omega))
    have hk := h k (by omega)
    by_cases hi : k < i
    · rw [show min (k + 1) i = k + 1 by omega, fr, fr]
      rw [show min k i = k by omega] at ih
      simp only [tt, if_true]
      cases hd : d k with
      | true => simp only [if_true]; rw [put_get, put_get]; simp only [get_size ih, ih]
      | false =>
        simp only [Bool.false_eq_true, if_false]
        rw [put_get, ih]
        by_cases e : (ops[k]?).bind (·.dst) = some t
        · rcases hk e with ⟨_, h2⟩ | ⟨h1, _⟩
          · rw [hd] at h2; cases h2
          · omega
        · rw [if_neg e]
    · rw [show min (k + 1) i = i by omega, fr]
      rw [show min k i = i by omega] at ih
      cases hd : d k with
      | false => simp only [Bool.false_eq_true, if_false]; exact ih
      | true =>
        simp only [if_true]
        rw [put_get, ih]
        by_cases e : (ops[k]?).bind (·.dst) = some t
        · rcases hk e with ⟨h1, _⟩ | ⟨_, h2⟩
          · omega
          · rw [hd] at h2; cases h2
        · rw [if_neg e]
theorem fr_put (V : Nat → Value) (a : Act) (d : Nat → Bool) (i : Nat) (hd : d i = false) : ∀ k, (∀ j, j < k → j ≠ i → ∀ t, (ops[i]?).bind (·.dst) = some t → (ops[j]?).bind (·.dst) ≠ some t) →
    fr ops V (don d i) a k = if i < k then (fr ops V d a k).put ((ops[i]?).bind (·.dst)) (V i) else fr ops V d a k
  | 0, _ => by simp [fr]
  | k + 1, h => by
    have ih := fr_put V a d i hd k (fun j hj => h j (by omega))
    rw [fr, fr]
    by_cases e : k = i
    · subst e
      rw [don_same, hd, ih, if_neg (show ¬ k < k by omega), if_pos (show k < k + 1 by omega)]
      simp
    · rw [don_other _ _ _ e, ih]
      by_cases h1 : i < k
      · rw [if_pos h1, if_pos (show i < k + 1 by omega)]
        cases hk : d k with
        | false => simp
        | true =>
          simp only [if_true]
          exact Act.put_comm _ _ _ (fun t ht => h k (by omega) e t ht)
      · rw [if_neg h1, if_neg (show ¬ i < k + 1 by omega)]
theorem seq_vals {I : (Nat → Bool) → World → Prop} {E : Act → Prop} (a : Act) : ∀ (l : List Oper) (k : Nat) (V : Nat → Value), (∀ j, l[j]? = ops[k + j]?) → Seq P ops I E k l (fr ops V tt a k) →
    ∃ V', (∀ j, j < k → V' j = V j) ∧ (∀ j o, l[j]? = some o → Step P ops I (k + j) o (V' (k + j)) (fr ops V' tt a (k + j))) ∧ E (fr ops V' tt a (k + l.length))
  | [], k, V, _, h => ⟨V, fun _ _ => rfl, fun j o hj => by simp at hj, by simpa [Seq] using h⟩
  | o :: r, k, V, hl, h => by
    obtain ⟨v, h1, h2⟩ := h
    have hk : ops[k]? = some o := by simpa using (hl 0).symm
    have frV : ∀ V1 V2 : Nat → Value, ∀ n, (∀ j, j < n → V1 j = V2 j) → fr ops V1 tt a n = fr ops V2 tt a n := by
      intro V1 V2 n
      induction n with
      | zero => intro _; rfl
      | succ n ih => intro hv; rw [fr, fr, ih (fun j hj => hv j (by omega)), hv n (by omega)]
    let W : Nat → Value := fun j => if j = k then v else V j
    have hW : fr ops W tt a (k + 1) = (fr ops V tt a k).put o.dst v := by
      rw [fr, frV W V k (fun j hj => by simp only [W]; rw [if_neg (by omega)])]
      simp [tt, hk, W]
    rw [← hW] at h2
    obtain ⟨V', e1, e2, e3⟩ := seq_vals a r (k + 1) W (fun j => by have := hl (j + 1); rw [show k + (j + 1) = k + 1 + j by omega] at this; simpa using this) h2
    refine ⟨V', fun j hj => ?_, fun j o' hj => ?_, ?_⟩
    · rw [e1 j (by omega)]; simp only [W]; rw [if_neg (by omega)]
    · cases j with
      | zero =>
        have : o' = o := by simpa using hj.symm
        subst this
        rw [Nat.add_zero, e1 k (by omega), frV V' V k (fun j hj => by rw [e1 j (by omega)]; simp only [W]; rw [if_neg (by omega)])]
        simpa [W] using h1
      | succ j => rw [show k + (j + 1) = k + 1 + j by omega]; exact e2 j o' (by simpa using hj)
    · rw [show k + (o :: r).length = k + 1 + r.length by simp; omega]; exact e3
theorem upv_upon {o : Oper} {a : Act} {K : Act → World → Prop} : ∀ {r : Result Next}, upv P (fun v w => K (a.put o.dst v) w) r → o.upon P a K Q r
  | .ok (.value _) _, h => h
  | .ok .skip _, h => h
  | .ok (.enter _ _) _, h => Calls.mono h fun e w' he => by obtain ⟨v, rfl, hk⟩ := he; exact hk
  | .ok (.row _ _) _, h => h
  | .ok (.defer _) _, h => h.elim
  | .ok (.round ..) _, h => h.elim
  | .ok .recover _, h => h.elim
  | .ok (.spawn _) _, h => h.elim
  | .halt _ _, h => h.elim
theorem mem_looks {x : Oper} {t : Nat} (h : .tmp t ∈ x.op.operands) : t ∈ x.looksAt ops := List.mem_append_left _ (List.mem_filterMap.2 ⟨.tmp t, by simpa using h, rfl⟩)
theorem eval_get {a b : Act} {t : Nat} (h : a.tmps[t]? = b.tmps[t]?) : a.eval (.tmp t) = b.eval (.tmp t) := by simp only [Act.eval, Array.getD_eq_getD_getElem?, h]
theorem wanted_get {a b : Act} {o : Oper} (h : ∀ t, t ∈ o.looksAt ops → a.tmps[t]? = b.tmps[t]?) : Region.wanted o (yielded ops a.tmps) = Region.wanted o (yielded ops b.tmps) := by
  unfold Region.wanted
  cases hg : o.guard with
  | none => rfl
  | some gw =>
    obtain ⟨g, want⟩ := gw
    have : yielded ops a.tmps g = yielded ops b.tmps g := by
      unfold yielded
      cases ht : (ops[g]?).bind (·.dst) with
      | none => rfl
      | some t => simp only [Option.bind_some]; rw [h t (by simp [Oper.looksAt, hg, ht])]
    simp only [this]
theorem wp_region_seq {id : Nat} {a : Act} {w : World} (I : (Nat → Bool) → World → Prop) (hm : P.follows .mixedOrders = true) (hok : okOps ops = true) (h0 : I (fun _ => false) w.drew)
    (hs : Seq P ops I (fun a' => ∀ d w', I d w' → (∀ i, i < ops.size → d i = true) → Q .normal a' w') 0 ops.toList a) : (Code.region id ops true).wp P Q a w := by
  have hok' := hok
  unfold okOps at hok'
  rw [Bool.and_eq_true] at hok'
  obtain ⟨he, hp⟩ := hok'
  obtain ⟨V, _, hst, hE⟩ := seq_vals (P := P) (ops := ops) (I := I) a ops.toList 0 (fun _ => undef) (fun j => by simp) hs
  simp only [Nat.zero_add] at hst hE
  have pair : ∀ (i j : Nat) (x y : Oper) (t : Nat), ops[i]? = some x → ops[j]? = some y → y.dst = some t → (x.dst = some t → i = j) ∧ (t ∈ x.looksAt ops → (j < i ∧ bindsOn x j = true) ∨ (i < j ∧ bindsOn y i = true)) := by
    intro i j x y t hx hy ht
    have hi : i < ops.size := (Array.getElem?_eq_some_iff.1 hx).1
    have hj : j < ops.size := (Array.getElem?_eq_some_iff.1 hy).1
    have h1 := List.all_eq_true.1 hp i (List.mem_range.2 hi)
    rw [Bool.and_eq_true] at h1
    have h2 := List.all_eq_true.1 h1.2 j (List.mem_range.2 hj)
    unfold pairOk at h2
    simp only [hx, hy, ht] at h2
    simp at h2
    refine ⟨fun e => h2.1.resolve_left (fun h => h e), fun hm => ?_⟩
    rcases h2.2 with (h | h) | h
    · exact absurd hm h
    · exact .inl h
    · exact .inr h
  have nosel : ∀ (i : Nat) (x : Oper) cs b, ops[i]? = some x → x.op ≠ .select cs b := by
    intro i x cs b hx hc
    have hi : i < ops.size := (Array.getElem?_eq_some_iff.1 hx).1
    have h1 := List.all_eq_true.1 hp i (List.mem_range.2 hi)
    rw [Bool.and_eq_true, hx] at h1
    simp [hc, isSel] at h1
  have bon : ∀ {x : Oper} {j : Nat}, bindsOn x j = true → ∃ e, e ∈ x.after ∧ Region.binds .any e = true ∧ e.on = j := by
    intro x j h
    unfold bindsOn at h
    rw [Array.any_eq_true'] at h
    obtain ⟨e, h1, h2⟩ := h
    rw [Bool.and_eq_true, beq_iff_eq] at h2
    exact ⟨e, h1, h2.1, h2.2⟩
  refine wp_region_inv (fun d x wx => x = fr ops V d a ops.size ∧ I d wx ∧ ∀ j o, ops[j]? = some o → d j = true → ∀ e, e ∈ o.after → Region.binds .any e = true → d e.on = true) hm he ?_ ?_ ?_
  · refine ⟨?_, h0, fun _ _ _ h => by cases h⟩
    have : ∀ k, fr ops V (fun _ => false) a k = a := by
      intro k
      induction k with
      | zero => rfl
      | succ k ih => rw [fr, ih]; simp
    exact (this _).symm
  · rintro d x wx i ⟨rfl, hI, hcl⟩ hi hmay
    obtain ⟨o, ho⟩ : ∃ o, ops[i]? = some o := ⟨ops[i], Array.getElem?_eq_getElem hi⟩
    have hdeps : ∀ e, e ∈ o.after → Region.binds .any e = true → d e.on = true := by
      intro e h1 h2
      have := hmay.2 o ho
      rw [Array.all_eq_true_iff_forall_mem] at this
      have := this e h1
      rw [h2] at this
      simpa using this
    have hsame : ∀ t, t ∈ o.looksAt ops → (fr ops V d a ops.size).tmps[t]? = (fr ops V tt a i).tmps[t]? := by
      intro t ht
      have := fr_get (ops := ops) V a d i t ops.size (fun j hj hjt => by
        obtain ⟨y, hy⟩ : ∃ y, ops[j]? = some y := ⟨ops[j], Array.getElem?_eq_getElem hj⟩
        rw [hy] at hjt
        rcases (pair i j o y t ho hy hjt).2 ht with ⟨h1, h2⟩ | ⟨h1, h2⟩
        · obtain ⟨e, e1, e2, e3⟩ := bon h2
          exact .inl ⟨h1, e3 ▸ hdeps e e1 e2⟩
        · refine .inr ⟨h1, ?_⟩
          cases hdj : d j with
          | false => rfl
          | true =>
            obtain ⟨e, e1, e2, e3⟩ := bon h2
            have := hcl j y hy hdj e e1 e2
            rw [e3, hmay.1] at this; cases this)
      rw [this, show min ops.size i = i by omega]
    have hex : execOp (fr ops V d a ops.size).eval o = execOp (fr ops V tt a i).eval o := by
      refine execOp_congr o (fun cs b => nosel i o cs b ho) (fun x hx => ?_)
      cases x with
      | tmp t => exact eval_get (hsame t (mem_looks hx))
      | _ => rfl
    have hwa := wanted_get hsame
    have hput : ∀ v, v = V i → (fr ops V d a ops.size).put o.dst v = fr ops V (don d i) a ops.size := by
      rintro v rfl
      rw [fr_put V a d i hmay.1 ops.size (fun j hj hne t ht => fun hjt => ?_), if_pos hi, ho]
      · rfl
      · obtain ⟨y, hy⟩ : ∃ y, ops[j]? = some y := ⟨ops[j], Array.getElem?_eq_getElem hj⟩
        rw [hy] at hjt
        rw [ho] at ht
        exact hne ((pair i j o y t ho hy hjt).1 ht).symm
    have hclo : ∀ j o', ops[j]? = some o' → don d i j = true → ∀ e, e ∈ o'.after → Region.binds .any e = true → don d i e.on = true := by
      intro j o' hj hdj e e1 e2
      have : d e.on = true := by
        by_cases hji : j = i
        · subst hji
          rw [ho] at hj
          cases hj
          exact hdeps e e1 e2
        · rw [don_other _ _ _ hji] at hdj
          exact hcl j o' hj hdj e e1 e2
      unfold don; split
      · rfl
      · exact this
    unfold wpOp
    rw [ho]
    simp only
    rcases hst i o (by simpa using ho) with ⟨h1, h2⟩ | ⟨h1, h2, h3⟩
    · rw [hwa, h1, if_pos rfl]
      refine .inl ?_
      unfold Oper.wp
      rw [hex]
      exact upv_upon (h2 _ d wx hI hmay (fun w' hI' => ⟨hput _ rfl, hI', hclo⟩))
    · rw [hwa, h1]
      simp only [Bool.false_eq_true, if_false]
      exact ⟨hput _ h2.symm, h3 d wx hI hmay, hclo⟩
  · rintro d x wx ⟨rfl, hI, _⟩ hall
    rw [fr_congr V a d tt ops.size (fun j hj => hall j hj)]
    exact hE d wx hI hall
/-- One step, where the world keeps S. -/
theorem go1 {S : World → Prop} {E : Act → Prop} {i : Nat} {o : Oper} {r : List Oper} {a a' : Act} {v : Value} (hg : o.guard = none)
    (h : ∀ (K : Value → World → Prop) w, S w → (∀ w', S w' → K v w') → upv P K ((execOp a.eval o).run P w)) (he : a.put o.dst v = a')
    (hr : Seq P ops (fun _ => S) E (i + 1) r a') : Seq P ops (fun _ => S) E i (o :: r) a :=
  ⟨v, .inl ⟨by simp [Region.wanted, hg], fun K _ w hS _ hK => h K w hS hK⟩, he ▸ hr⟩
/-- The same, of an operation under a guard that is met. -/
theorem go1g {S : World → Prop} {E : Act → Prop} {i : Nat} {o : Oper} {r : List Oper} {a a' : Act} {v : Value} (hg : Region.wanted o (yielded ops a.tmps) = true)
    (h : ∀ (K : Value → World → Prop) w, S w → (∀ w', S w' → K v w') → upv P K ((execOp a.eval o).run P w)) (he : a.put o.dst v = a')
    (hr : Seq P ops (fun _ => S) E (i + 1) r a') : Seq P ops (fun _ => S) E i (o :: r) a :=
  ⟨v, .inl ⟨hg, fun K _ w hS _ hK => h K w hS hK⟩, he ▸ hr⟩
/-- One that its guard leaves out. -/
theorem go0 {S : World → Prop} {E : Act → Prop} {i : Nat} {o : Oper} {r : List Oper} {a a' : Act} (hg : Region.wanted o (yielded ops a.tmps) = false) (he : a.put o.dst undef = a')
    (hr : Seq P ops (fun _ => S) E (i + 1) r a') : Seq P ops (fun _ => S) E i (o :: r) a :=
  ⟨undef, .inr ⟨hg, rfl, fun _ _ h _ => h⟩, he ▸ hr⟩
theorem go_end {I : (Nat → Bool) → World → Prop} {E : Act → Prop} {i : Nat} {a : Act} (h : E a) : Seq P ops I E i [] a := h
end RS
end Go.Proofs.Ytengpjalkiibiaa
/- The library's contracts for math/bits, laid at this dump by the kit's own tool. -/
namespace Go.Proofs
open Go.Shelf
def Try.lays128_ren : Go.Shelf.Ren := ⟨fun | 128 => 59 | n => n, fun | 51 => 98 | 3 => 3 | 4 => 4 | 46 => 85 | 5 => 5 | 9 => 9 | n => n, fun | n => n⟩
theorem Try.lays128 : Go.Proofs.Lays.n128 Try.prog Try.lays128_ren := {
  mixed := by kernel_rfl
  f128 := Try.func59.trans (congrArg some (by kernel_rfl))
  t3 := Try.underlying3
  a3 := Try.isAgg3
  z3 := Try.sizeOf3
  v3 := Try.zeroValue3
  t4 := Try.underlying4
  a4 := Try.isAgg4
  z4 := Try.sizeOf4
  v4 := Try.zeroValue4
  t5 := Try.underlying5
  a5 := Try.isAgg5
  z5 := Try.sizeOf5
  v5 := Try.zeroValue5
  t9 := Try.underlying9
  a9 := Try.isAgg9
  z9 := Try.sizeOf9
  v9 := Try.zeroValue9
  t46 := Try.underlying85
  a46 := Try.isAgg85
  z46 := Try.sizeOf85
  v46 := Try.zeroValue85
  t51 := Try.underlying98
  a51 := Try.isAgg98
  z51 := Try.sizeOf98
  v51 := Try.zeroValue98 }

theorem Try.bits_Len32 (x : Int) (w : World) (h0 : 0 ≤ x) (h1 : x ≤ 4294967295) :
    Calls Try.prog 59 #[.int .u32 x] w fun e w' => e = .returned (.int .i64 (Lib.bitLen x.toNat)) ∧ w' = w := Any.bits_Len32 Try.lays128 x w h0 h1
def Try.lays125_ren : Go.Shelf.Ren := ⟨fun | 125 => 46 | 128 => 59 | 129 => 60 | n => n, fun | 46 => 85 | 3 => 3 | 51 => 98 | 53 => 29 | 4 => 4 | 5 => 5 | 9 => 9 | n => n, fun | n => n⟩
theorem Try.lays125 : Go.Proofs.Lays.n125 Try.prog Try.lays125_ren := {
  mixed := by kernel_rfl
  f125 := Try.func46.trans (congrArg some (by kernel_rfl))
  f128 := Try.func59.trans (congrArg some (by kernel_rfl))
  f129 := Try.func60.trans (congrArg some (by kernel_rfl))
  t3 := Try.underlying3
  a3 := Try.isAgg3
  z3 := Try.sizeOf3
  v3 := Try.zeroValue3
  t4 := Try.underlying4
  a4 := Try.isAgg4
  z4 := Try.sizeOf4
  v4 := Try.zeroValue4
  t5 := Try.underlying5
  a5 := Try.isAgg5
  z5 := Try.sizeOf5
  v5 := Try.zeroValue5
  t9 := Try.underlying9
  a9 := Try.isAgg9
  z9 := Try.sizeOf9
  v9 := Try.zeroValue9
  t46 := Try.underlying85
  a46 := Try.isAgg85
  z46 := Try.sizeOf85
  v46 := Try.zeroValue85
  t51 := Try.underlying98
  a51 := Try.isAgg98
  z51 := Try.sizeOf98
  v51 := Try.zeroValue98
  t53 := Try.underlying29
  a53 := Try.isAgg29
  z53 := Try.sizeOf29
  v53 := Try.zeroValue29 }

theorem Try.bits_Len (x : Int) (w : World) (h0 : 0 ≤ x) (h1 : x ≤ 18446744073709551615) :
    Calls Try.prog 46 #[.int .u64 x] w fun e w' => e = .returned (.int .i64 (Lib.bitLen x.toNat)) ∧ w' = w := Any.bits_Len Try.lays125 x w h0 h1
def Try.lays129_ren : Go.Shelf.Ren := ⟨fun | 129 => 60 | n => n, fun | 53 => 29 | 3 => 3 | 4 => 4 | 46 => 85 | 5 => 5 | 9 => 9 | n => n, fun | n => n⟩
theorem Try.lays129 : Go.Proofs.Lays.n129 Try.prog Try.lays129_ren := {
  mixed := by kernel_rfl
  f129 := Try.func60.trans (congrArg some (by kernel_rfl))
  t3 := Try.underlying3
  a3 := Try.isAgg3
  z3 := Try.sizeOf3
  v3 := Try.zeroValue3
  t4 := Try.underlying4
  a4 := Try.isAgg4
  z4 := Try.sizeOf4
  v4 := Try.zeroValue4
  t5 := Try.underlying5
  a5 := Try.isAgg5
  z5 := Try.sizeOf5
  v5 := Try.zeroValue5
  t9 := Try.underlying9
  a9 := Try.isAgg9
  z9 := Try.sizeOf9
  v9 := Try.zeroValue9
  t46 := Try.underlying85
  a46 := Try.isAgg85
  z46 := Try.sizeOf85
  v46 := Try.zeroValue85
  t53 := Try.underlying29
  a53 := Try.isAgg29
  z53 := Try.sizeOf29
  v53 := Try.zeroValue29 }

theorem Try.bits_Len64 (x : Int) (w : World) (h0 : 0 ≤ x) (h1 : x ≤ 18446744073709551615) :
    Calls Try.prog 60 #[.int .u64 x] w fun e w' => e = .returned (.int .i64 (Lib.bitLen x.toNat)) ∧ w' = w := Any.bits_Len64 Try.lays129 x w h0 h1
end Go.Proofs
/- journal: a journal in memory. -/
namespace Go.Proofs.Ytengpjalkiibiaa
namespace Jn
open Go.RowKit Go.Maps
theorem lawU : Keyed Try.prog 29 := int_keyed Try.underlying29
theorem zeroU (w : World) : (zeroValue 29).run Try.prog w = .ok (.int .u64 0) w := by kernel_rfl
def ky (k : Nat) : Lit := .int .u64 (k : Int)
theorem wfU {k : Nat} (h : k < 18446744073709551616) : (Lit.int .u64 (k : Int)).wf = true := WalkArith.wf_u64 (by omega)
theorem keyU {k : Nat} (h : k < 18446744073709551616) : keyOf Try.prog 29 (.int .u64 (k : Int)) = some (ky k) := keyOf_int_mk Try.underlying29 (wfU h)
theorem ky_ne {a b : Nat} (h : a ≠ b) : ky a ≠ ky b := fun e => by
  unfold ky at e
  injection e with _ e
  omega
theorem ky_is (k : Nat) : WideAt.IsKeyLit (ky k) := trivial
abbrev Dt := DataW Unit
/-- The map as it is read, and the values by keys. -/
def Mp (D : Dt) (t : Fn) : Prop := (∀ k : Nat, k < 18446744073709551616 → Maps.has D (ky k) = decide (t k ≠ 0) ∧ D.atKey (ky k) (.lit (.int .u64 0)) = .lit (.int .u64 (t k : Int))) ∧ (∀ k : Nat, 18446744073709551616 ≤ k → t k = 0) ∧ WF t
theorem Mp_put {D : Dt} {t : Fn} {k v : Nat} (h : Mp D t) (hm : IsMap D) (hk : k < 18446744073709551616) (hv : v < 18446744073709551616) (h0 : v ≠ 0) : Mp (D.put (ky k) (.lit (.int .u64 (v : Int)))) (upd t k v) := by
  refine ⟨fun j hj => ?_, fun j hj => ?_, upd_wf h.2.2 hv⟩
  · by_cases e : j = k
    · subst e
      rw [has_put_same hm (ky_is _), atKey_put_same hm (ky_is _)]
      simp [upd, h0]
    · rw [has_put_other (ky_ne e), atKey_put_other (ky_ne e)]
      simp only [upd, if_neg e]
      exact h.1 j hj
  · unfold upd
    rw [if_neg (by omega)]
    exact h.2.1 j hj
theorem Mp_del {D : Dt} {t : Fn} {k : Nat} (h : Mp D t) (hk : k < 18446744073709551616) : Mp (D.del (ky k)) (upd t k 0) := by
  refine ⟨fun j hj => ?_, fun j hj => ?_, upd_wf h.2.2 (by omega)⟩
  · by_cases e : j = k
    · subst e
      rw [has_del_same, atKey_del_same]
      simp [upd]
    · rw [has_del_other (ky_ne e), atKey_del_other (ky_ne e)]
      simp only [upd, if_neg e]
      exact h.1 j hj
  · unfold upd
    rw [if_neg (by omega)]
    exact h.2.1 j hj
def cp (c : Nat × Nat) : List Value := [.int .u64 (c.1 : Int), .int .u64 (c.2 : Int), .bool (decide (c.2 ≠ 0))]
def cps (p : Ps) : List Value := p.flatMap cp
def cms (l : List Nat) : List Value := l.map fun (m : Nat) => .int .i64 (m : Int)
theorem cps_len : ∀ p : Ps, (cps p).length = p.length * 3
  | [] => rfl
  | c :: p => by
    have := cps_len p
    unfold cps at this ⊢
    rw [List.flatMap_cons, List.length_append, this, List.length_cons]
    show 3 + _ = _
    omega
theorem cps_app (p q : Ps) : cps (p ++ q) = cps p ++ cps q := List.flatMap_append ..
theorem cms_len (l : List Nat) : (cms l).length = l.length := List.length_map ..
theorem cps_take : ∀ (p : Ps) (m : Nat), cps (p.take m) = (cps p).take (m * 3)
  | [], m => by simp [cps]
  | c :: p, 0 => by simp [cps]
  | c :: p, m + 1 => by
    have := cps_take p m
    unfold cps at this ⊢
    rw [List.take_succ_cons, List.flatMap_cons, List.flatMap_cons, this, show (m + 1) * 3 = 3 + m * 3 by omega, ← List.take_length_add_append]
    rfl
theorem cps_at : ∀ (p : Ps) (j i : Nat) (hj : j < p.length), i < 3 → (cps p)[j * 3 + i]? = (cp p[j])[i]?
  | c :: p, 0, i, _, hi => by
    unfold cps
    rw [List.flatMap_cons, Nat.zero_mul, Nat.zero_add, List.getElem?_append_left hi]
    rfl
  | c :: p, j + 1, i, hj, hi => by
    have := cps_at p j i (by simpa using hj) hi
    unfold cps at this ⊢
    rw [List.flatMap_cons, show (j + 1) * 3 + i = (cp c).length + (j * 3 + i) by show _ = 3 + _; omega, List.getElem?_append_right (by omega), Nat.add_sub_cancel_left, this]
    rfl
variable {X : Nat → Prop}
/-- What an operation changes: the blocks gj, gm and what lies from B on, but the blocks of X. -/
structure Kj (X : Nat → Prop) (B gj gm : Nat) (w w' : World) : Prop where
  os : w'.os = w.os
  tape : w'.tape = w.tape
  output : w'.output = w.output
  size : w.heap.size ≤ w'.heap.size
  block : ∀ k, k < B ∨ X k → k ≠ gj → k ≠ gm → w'.heap[k]? = w.heap[k]?
theorem Kj_refl (B gj gm : Nat) (w : World) : Kj X B gj gm w w := ⟨rfl, rfl, rfl, Nat.le_refl _, fun _ _ _ _ => rfl⟩
theorem Kj_trans {B gj gm : Nat} {a b c : World} (h : Kj X B gj gm a b) (k : Kj X B gj gm b c) : Kj X B gj gm a c :=
  ⟨k.os.trans h.os, k.tape.trans h.tape, k.output.trans h.output, Nat.le_trans h.size k.size, fun j h1 h2 h3 => (k.block j h1 h2 h3).trans (h.block j h1 h2 h3)⟩
theorem Kj_below {B gj gm : Nat} {a b : World} (h : Below a.heap.size a b) (hB : B ≤ a.heap.size) (hX : ∀ k, X k → k < a.heap.size) : Kj X B gj gm a b :=
  ⟨h.os, h.tape, h.output, h.size, fun j h1 _ _ => h.block j (by
    rcases h1 with h1 | h1
    · omega
    · exact hX j h1)⟩
theorem Kj_gb {B gj gm : Nat} {a b : World} {r : Option Nat} (h : a.grownBy b r) (hB : B ≤ a.heap.size) (hX : ∀ k, X k → k < a.heap.size) (hr : ∀ k, r = some k → k = gj ∨ k = gm ∨ (B ≤ k ∧ ¬ X k)) : Kj X B gj gm a b :=
  ⟨h.os, h.tape, h.output, h.size, fun j h1 h2 h3 => h.block j (by
    rcases h1 with h1 | h1
    · omega
    · exact hX j h1) (fun e => by
    rcases hr j e.symm with h | h | h
    · exact h2 h
    · exact h3 h
    · rcases h1 with h1 | h1
      · omega
      · exact h.2 h1)⟩
/-- A journal at gj, its map at gm, its rows from B on. -/
structure JS (X : Nat → Prop) (B gj gm N : Nat) (t : Fn) (p : Ps) (ms : List Nat) (pv mv : Value) (w : World) : Prop where
  lm : gm < B
  lj : gj < B
  ne : gm ≠ gj
  hi : B ≤ w.heap.size
  hx : ∀ k, X k → k < w.heap.size
  nx : ∀ k, X k → k ≠ gj ∧ k ≠ gm ∧ some k ≠ pv.ownBlock ∧ some k ≠ mv.ownBlock
  c0 : w.cell? ⟨gj, 0, none⟩ = some (.map (some gm))
  c1 : w.cell? ⟨gj, 1, none⟩ = some pv
  c2 : w.cell? ⟨gj, 2, none⟩ = some mv
  f : ∀ o, w.frozen? ⟨gj, o, none⟩ = false
  mp : ∃ (D : Dt) (n : Nat), w.ownsMap Try.prog 29 (plainElem Try.prog 29) gm n D ∧ n + p.length ≤ N ∧ Mp D t
  pw : w.ownsRow B 79 3 pv p.length (cps p)
  mw : w.ownsRow B 3 1 mv ms.length (cms ms.reverse)
  ap : ∀ g, pv.ownBlock = some g → mv.ownBlock ≠ some g
theorem JS.mono {B gj gm N N' : Nat} {t : Fn} {p : Ps} {ms : List Nat} {pv mv : Value} {w : World} (h : JS X B gj gm N t p ms pv mv w) (hN : N ≤ N') : JS X B gj gm N' t p ms pv mv w := by
  obtain ⟨D, n, h1, h2, h3⟩ := h.mp
  exact { h with mp := ⟨D, n, h1, by omega, h3⟩ }
theorem gb_of_below {w w' : World} (h : Below w.heap.size w w') (r : Option Nat) : w.grownBy w' r := ⟨h.os, h.tape, h.output, h.size, fun j hj _ => h.block j hj⟩
theorem own_n {B e s n : Nat} {v : Value} {xs : List Value} {w w' : World} (h : w.ownsRow B e s v n xs) (g : w.grownBy w' none) : w'.ownsRow B e s v n xs := h.kept g (by cases v.ownBlock with
  | none => exact .inl rfl
  | some a => exact .inr (by simp))
theorem JS.below {B gj gm N : Nat} {t : Fn} {p : Ps} {ms : List Nat} {pv mv : Value} {w w' : World} (h : JS X B gj gm N t p ms pv mv w) (hb : Below w.heap.size w w') : JS X B gj gm N t p ms pv mv w' := by
  have hj : gj < w.heap.size := Nat.lt_of_lt_of_le h.lj h.hi
  obtain ⟨D, n, h1, h2, h3⟩ := h.mp
  have g := gb_of_below hb none
  exact ⟨h.lm, h.lj, h.ne, Nat.le_trans h.hi hb.size, fun k hk => Nat.lt_of_lt_of_le (h.hx k hk) hb.size, h.nx, (hb.cell (p := ⟨gj, 0, none⟩) hj).trans h.c0, (hb.cell (p := ⟨gj, 1, none⟩) hj).trans h.c1, (hb.cell (p := ⟨gj, 2, none⟩) hj).trans h.c2, fun o => (hb.frozen (p := ⟨gj, o, none⟩) hj).trans (h.f o), ⟨D, n, h1.kept g (by simp), h2, h3⟩, own_n h.pw g, own_n h.mw g, h.ap⟩
theorem own_form {B e s n : Nat} {v : Value} {xs : List Value} {w : World} (h : w.ownsRow B e s v n xs) : ∃ ao cap, v = .slice ao n cap := by
  rcases h.2 with ⟨h1, h2⟩ | ⟨g, cap, cur, h1, _⟩
  · exact ⟨none, 0, by rw [h1, h2]⟩
  · exact ⟨_, cap, h1⟩
set_option maxRecDepth 100000 in
theorem get_any (B gj gm N k : Nat) (t : Fn) (p : Ps) (ms : List Nat) (pv mv : Value) (w : World) (h : JS X B gj gm N t p ms pv mv w) (hk : k < 18446744073709551616) :
    Calls Try.prog 26 #[.pointer (some ⟨gj, 0, none⟩), .int .u64 (k : Int)] w fun e w' => e = .returned (.tuple #[.int .u64 (t k : Int), .bool (decide (t k ≠ 0))]) ∧ w' = w := by
  obtain ⟨D, n, h1, h2, h3⟩ := h.mp
  have c0 := h.c0
  have HD : Hid (Maps.has D (ky k) = decide (t k ≠ 0) ∧ D.atKey (ky k) (.lit (.int .u64 0)) = .lit (.int .u64 (t k : Int))) := h3.1 k hk
  have hkey := keyU hk
  generalize t k = v at *
  clear h h2 h3 hk
  go_enter Try.func26, Try.ntmps26
  go_wp2_with (at_lookup; refine wpList_lookup_own_ok_int _ rfl _ _ 48 rfl 29 29 .u64 lawU Try.underlying48 Try.underlying29 (zeroU _) gm n D rfl h1 _ _ rfl hkey ?_; intro c hat hwc)
  have ec : c = (v : Int) := by
    have := hat.symm.trans HD.out.2
    injection this with this
    injection this
  subst ec
  rw [HD.out.1]
  go_wp2
  go_ret2
  exact ⟨rfl, rfl⟩
theorem own_le {B e s n : Nat} {v : Value} {xs : List Value} {w : World} (h : w.ownsRow B e s v n xs) : n ≤ maxLen := by
  rcases h.2 with ⟨_, h1⟩ | ⟨g, cap, cur, _, _, _, h2, h3, _⟩
  · omega
  · omega
theorem own_cut {B e s n cap : Nat} {ao : Option Addr} {xs : List Value} {w : World} (h : w.ownsRow B e s (.slice ao n cap) n xs) (m : Nat) (hm : m ≤ n) : w.ownsRow B e s (.slice ao m cap) m (xs.take (m * s)) := by
  obtain ⟨h0, h⟩ := h
  have hms : m * s ≤ n * s := Nat.mul_le_mul_right _ hm
  refine ⟨by rw [List.length_take]; omega, ?_⟩
  rcases h with ⟨h1, h2⟩ | ⟨g, cap', cur, h1, h2, h3, h4, h5, h6, h7⟩
  · injection h1 with h1 _ h3
    exact .inl ⟨by rw [h1, h3, show m = 0 by omega], by omega⟩
  · injection h1 with h1 _ h8
    exact .inr ⟨g, cap', cur, by rw [h1, h8], h2, h3, by omega, h5, h6, by rw [← h7, List.take_take, Nat.min_eq_left hms]⟩
theorem JS.past' {B gj gm N N' : Nat} {t : Fn} {p p' : Ps} {ms : List Nat} {pv pv' mv : Value} {w w1 : World} (h : JS X B gj gm N t p ms pv mv w) (hg : w.grownBy w1 pv.ownBlock) (ho : w1.ownsRow B 79 3 pv' p'.length (cps p'))
    (hn : ∀ g, pv'.ownBlock = some g → pv.ownBlock = some g ∨ w.heap.size ≤ g) (hl : ∀ n, n + p.length ≤ N → n + p'.length ≤ N') : JS X B gj gm N' t p' ms pv' mv (w1.setCell ⟨gj, 1, none⟩ pv') ∧ Kj X B gj gm w (w1.setCell ⟨gj, 1, none⟩ pv') := by
  have hpb : ∀ g, pv.ownBlock = some g → B ≤ g := fun g e => (h.pw.lt g e).1
  have hj : gj < w.heap.size := Nat.lt_of_lt_of_le h.lj h.hi
  have hne : some gj ≠ pv.ownBlock := fun e => by have := hpb gj e.symm; have := h.lj; omega
  have hb := hg.block gj hj hne
  have gs : w1.grownBy (w1.setCell ⟨gj, 1, none⟩ pv') (some gj) := ⟨rfl, rfl, rfl, by simp, fun k hk hn => Below.heap_setCell _ _ _ _ (fun e => hn (by rw [e]))⟩
  have hj1 : gj < w1.heap.size := Nat.lt_of_lt_of_le hj hg.size
  obtain ⟨D, n, h1, h2, h3⟩ := h.mp
  have e1 : w1.cell? ⟨gj, 1, none⟩ = some pv := (World.cell?_of_block (a := ⟨gj, 1, none⟩) hb).trans h.c1
  refine ⟨⟨h.lm, h.lj, h.ne, ?_, fun k hk => ?_, fun k hk => ⟨(h.nx k hk).1, (h.nx k hk).2.1, fun e => ?_, (h.nx k hk).2.2.2⟩, ?_, World.cell?_setCell_same _ _ _ e1, ?_, fun o => by rw [World.frozen?_setCell]; exact (World.frozen?_of_block (a := ⟨gj, o, none⟩) hb).trans (h.f o), ⟨D, n, ?_, hl n h2, h3⟩, ?_, ?_, ?_⟩, ?_⟩
  · have := hg.size
    have := h.hi
    simp
    omega
  · have := hg.size
    have := h.hx k hk
    simp
    omega
  · rcases hn k e.symm with h4 | h4
    · exact (h.nx k hk).2.2.1 h4.symm
    · have := h.hx k hk
      omega
  · rw [World.cell?_setCell_other _ _ _ _ (by simp)]
    exact (World.cell?_of_block (a := ⟨gj, 0, none⟩) hb).trans h.c0
  · rw [World.cell?_setCell_other _ _ _ _ (by simp)]
    exact (World.cell?_of_block (a := ⟨gj, 2, none⟩) hb).trans h.c2
  · exact (h1.kept hg (fun e => by have := hpb gm e.symm; have := h.lm; omega)).kept gs (fun e => h.ne (by simpa using e))
  · exact ho.kept gs (.inr (fun e => by have := (ho.lt gj e).1; have := h.lj; omega))
  · have hm1 : w1.ownsRow B 3 1 mv ms.length (cms ms.reverse) := h.mw.kept hg (by
      cases hq : mv.ownBlock with
      | none => exact .inl rfl
      | some a => exact .inr (fun e => h.ap a e.symm hq))
    exact hm1.kept gs (.inr (fun e => by have := (hm1.lt gj e).1; have := h.lj; omega))
  · intro g eg em
    rcases hn g eg with h4 | h4
    · exact h.ap g h4 em
    · have := (h.mw.lt g em).2
      omega
  · exact Kj_trans (Kj_gb hg h.hi h.hx (fun k e => .inr (.inr ⟨hpb k e, fun hk => (h.nx k hk).2.2.1 e.symm⟩))) (Kj_gb gs (Nat.le_trans h.hi hg.size) (fun k hk => Nat.lt_of_lt_of_le (h.hx k hk) hg.size) (fun k e => .inl (by simpa using e.symm)))
theorem JS.past {B gj gm N d : Nat} {t : Fn} {p p' : Ps} {ms : List Nat} {pv pv' mv : Value} {w w1 : World} (h : JS X B gj gm N t p ms pv mv w) (hg : w.grownBy w1 pv.ownBlock) (ho : w1.ownsRow B 79 3 pv' p'.length (cps p'))
    (hn : ∀ g, pv'.ownBlock = some g → pv.ownBlock = some g ∨ w.heap.size ≤ g) (hl : p'.length ≤ p.length + d) : JS X B gj gm (N + d) t p' ms pv' mv (w1.setCell ⟨gj, 1, none⟩ pv') ∧ Kj X B gj gm w (w1.setCell ⟨gj, 1, none⟩ pv') := h.past' hg ho hn (fun n hn => by omega)
theorem JS.marks {B gj gm N : Nat} {t : Fn} {p : Ps} {ms ms' : List Nat} {pv mv mv' : Value} {w w1 : World} (h : JS X B gj gm N t p ms pv mv w) (hg : w.grownBy w1 mv.ownBlock) (ho : w1.ownsRow B 3 1 mv' ms'.length (cms ms'.reverse))
    (hn : ∀ g, mv'.ownBlock = some g → mv.ownBlock = some g ∨ w.heap.size ≤ g) : JS X B gj gm N t p ms' pv mv' (w1.setCell ⟨gj, 2, none⟩ mv') ∧ Kj X B gj gm w (w1.setCell ⟨gj, 2, none⟩ mv') := by
  have hpb : ∀ g, mv.ownBlock = some g → B ≤ g := fun g e => (h.mw.lt g e).1
  have hj : gj < w.heap.size := Nat.lt_of_lt_of_le h.lj h.hi
  have hne : some gj ≠ mv.ownBlock := fun e => by have := hpb gj e.symm; have := h.lj; omega
  have hb := hg.block gj hj hne
  have gs : w1.grownBy (w1.setCell ⟨gj, 2, none⟩ mv') (some gj) := ⟨rfl, rfl, rfl, by simp, fun k hk hn => Below.heap_setCell _ _ _ _ (fun e => hn (by rw [e]))⟩
  obtain ⟨D, n, h1, h2, h3⟩ := h.mp
  have e1 : w1.cell? ⟨gj, 2, none⟩ = some mv := (World.cell?_of_block (a := ⟨gj, 2, none⟩) hb).trans h.c2
  refine ⟨⟨h.lm, h.lj, h.ne, ?_, fun k hk => ?_, fun k hk => ⟨(h.nx k hk).1, (h.nx k hk).2.1, (h.nx k hk).2.2.1, fun e => ?_⟩, ?_, ?_, World.cell?_setCell_same _ _ _ e1, fun o => by rw [World.frozen?_setCell]; exact (World.frozen?_of_block (a := ⟨gj, o, none⟩) hb).trans (h.f o), ⟨D, n, ?_, by omega, h3⟩, ?_, ?_, ?_⟩, ?_⟩
  · have := hg.size
    have := h.hi
    simp
    omega
  · have := hg.size
    have := h.hx k hk
    simp
    omega
  · rcases hn k e.symm with h4 | h4
    · exact (h.nx k hk).2.2.2 h4.symm
    · have := h.hx k hk
      omega
  · rw [World.cell?_setCell_other _ _ _ _ (by simp)]
    exact (World.cell?_of_block (a := ⟨gj, 0, none⟩) hb).trans h.c0
  · rw [World.cell?_setCell_other _ _ _ _ (by simp)]
    exact (World.cell?_of_block (a := ⟨gj, 1, none⟩) hb).trans h.c1
  · exact (h1.kept hg (fun e => by have := hpb gm e.symm; have := h.lm; omega)).kept gs (fun e => h.ne (by simpa using e))
  · have hm1 : w1.ownsRow B 79 3 pv p.length (cps p) := h.pw.kept hg (by
      cases hq : pv.ownBlock with
      | none => exact .inl rfl
      | some a => exact .inr (fun e => h.ap a hq e.symm))
    exact hm1.kept gs (.inr (fun e => by have := (hm1.lt gj e).1; have := h.lj; omega))
  · exact ho.kept gs (.inr (fun e => by have := (ho.lt gj e).1; have := h.lj; omega))
  · intro g eg em
    rcases hn g em with h4 | h4
    · exact h.ap g eg h4
    · have := (h.pw.lt g eg).2
      omega
  · exact Kj_trans (Kj_gb hg h.hi h.hx (fun k e => .inr (.inr ⟨hpb k e, fun hk => (h.nx k hk).2.2.2 e.symm⟩))) (Kj_gb gs (Nat.le_trans h.hi hg.size) (fun k hk => Nat.lt_of_lt_of_le (h.hx k hk) hg.size) (fun k e => .inl (by simpa using e.symm)))
theorem turned {B gj gm N d : Nat} {t t' : Fn} {p : Ps} {ms : List Nat} {pv mv : Value} {w w1 : World} (h : JS X B gj gm N t p ms pv mv w) (hg : w.grownBy w1 (some gm)) (hm : ∃ (D : Dt) (n : Nat), w1.ownsMap Try.prog 29 (plainElem Try.prog 29) gm n D ∧ n + p.length ≤ N + d ∧ Mp D t') :
    JS X B gj gm (N + d) t' p ms pv mv w1 ∧ Kj X B gj gm w w1 := by
  have hj : gj < w.heap.size := Nat.lt_of_lt_of_le h.lj h.hi
  have hb := hg.block gj hj (fun e => h.ne (by simpa using e.symm))
  refine ⟨⟨h.lm, h.lj, h.ne, Nat.le_trans h.hi hg.size, fun k hk => Nat.lt_of_lt_of_le (h.hx k hk) hg.size, h.nx, (World.cell?_of_block (a := ⟨gj, 0, none⟩) hb).trans h.c0, (World.cell?_of_block (a := ⟨gj, 1, none⟩) hb).trans h.c1, (World.cell?_of_block (a := ⟨gj, 2, none⟩) hb).trans h.c2, fun o => (World.frozen?_of_block (a := ⟨gj, o, none⟩) hb).trans (h.f o), hm, ?_, ?_, h.ap⟩, Kj_gb hg h.hi h.hx (fun k e => .inr (.inl (by simpa using e.symm)))⟩
  · exact h.pw.kept hg (.inr (fun e => by have := (h.pw.lt gm e).1; have := h.lm; omega))
  · exact h.mw.kept hg (.inr (fun e => by have := (h.mw.lt gm e).1; have := h.lm; omega))
theorem JS.gb {B gj gm N : Nat} {t : Fn} {p : Ps} {ms : List Nat} {pv mv : Value} {w w' : World} {r : Option Nat} (h : JS X B gj gm N t p ms pv mv w) (hg : w.grownBy w' r) (hj : some gj ≠ r) (hm : some gm ≠ r) (hp : pv.ownBlock = none ∨ pv.ownBlock ≠ r) (hv : mv.ownBlock = none ∨ mv.ownBlock ≠ r) : JS X B gj gm N t p ms pv mv w' := by
  have hb := hg.block gj (Nat.lt_of_lt_of_le h.lj h.hi) hj
  obtain ⟨D, n, h1, h2, h3⟩ := h.mp
  exact ⟨h.lm, h.lj, h.ne, Nat.le_trans h.hi hg.size, fun k hk => Nat.lt_of_lt_of_le (h.hx k hk) hg.size, h.nx, (World.cell?_of_block (a := ⟨gj, 0, none⟩) hb).trans h.c0, (World.cell?_of_block (a := ⟨gj, 1, none⟩) hb).trans h.c1, (World.cell?_of_block (a := ⟨gj, 2, none⟩) hb).trans h.c2, fun o => (World.frozen?_of_block (a := ⟨gj, o, none⟩) hb).trans (h.f o), ⟨D, n, h1.kept hg hm, h2, h3⟩, h.pw.kept hg hp, h.mw.kept hg hv, h.ap⟩
/-- More blocks are kept: those that a call has made since. -/
theorem JS.more {Y : Nat → Prop} {B gj gm N : Nat} {t : Fn} {p : Ps} {ms : List Nat} {pv mv : Value} {w w' : World} (h : JS X B gj gm N t p ms pv mv w) (hb : Below w.heap.size w w') (hY : ∀ k, Y k → X k ∨ (w.heap.size ≤ k ∧ k < w'.heap.size)) : JS Y B gj gm N t p ms pv mv w' := by
  have h2 := h.below hb
  refine { h2 with hx := fun k hk => ?_, nx := fun k hk => ?_ }
  · rcases hY k hk with h3 | h3
    · exact h2.hx k h3
    · exact h3.2
  · rcases hY k hk with h3 | h3
    · exact h2.nx k h3
    · have q1 := h.hi
      have q2 := h.lj
      have q3 := h.lm
      refine ⟨by omega, by omega, fun e => ?_, fun e => ?_⟩
      · have := (h.pw.lt k e.symm).2
        omega
      · have := (h.mw.lt k e.symm).2
        omega
theorem JS.less {Y : Nat → Prop} {B gj gm N : Nat} {t : Fn} {p : Ps} {ms : List Nat} {pv mv : Value} {w : World} (h : JS X B gj gm N t p ms pv mv w) (hY : ∀ k, Y k → X k) : JS Y B gj gm N t p ms pv mv w :=
  { h with hx := fun k hk => h.hx k (hY k hk), nx := fun k hk => h.nx k (hY k hk) }
end Jn
end Go.Proofs.Ytengpjalkiibiaa
/- journal: its methods but Back and Keys. -/
namespace Go.Proofs.Ytengpjalkiibiaa
namespace Jn
variable {X : Nat → Prop}
open Go.RowKit Go.Maps
set_option maxRecDepth 100000 in
theorem marks_any (B gj gm N : Nat) (t : Fn) (p : Ps) (ms : List Nat) (pv mv : Value) (w : World) (h : JS X B gj gm N t p ms pv mv w) :
    Calls Try.prog 39 #[.pointer (some ⟨gj, 0, none⟩)] w fun e w' => e = .returned (.int .i64 (ms.length : Int)) ∧ w' = w := by
  have c2 := h.c2
  obtain ⟨ao, cap, rfl⟩ := own_form h.mw
  generalize ms.length = n at *
  clear h
  go_enter Try.func39, Try.ntmps39
  go_wp2
  go_ret
  exact ⟨rfl, rfl⟩
def ja (a : JA) : Value := .agg #[.int .i64 a.1, .int .u64 (a.2 : Int)]
theorem resJ (f : Func) (tm : Array Value) (W : World) (g s : Nat) (p q : Value) (hf : f.results = #[.cell s 31]) (h : tm.getD s undef = .pointer (some ⟨g, 0, none⟩)) (c0 : W.cell? ⟨g, 0, none⟩ = some p) (c1 : W.cell? ⟨g, 1, none⟩ = some q) : (results f tm).run Try.prog W = .ok (.agg #[p, q]) W := by
  simp at h
  simp [results, hf, go_sem, h, c0, c1]
set_option maxRecDepth 100000 in
theorem marksof_no (gj : Nat) (w : World) : Calls Try.prog 28 #[.pointer (some ⟨gj, 0, none⟩), .bool false] w fun e w' => e = .returned (ja (31, 0)) ∧ Below w.heap.size w w' := by
  go_enter Try.func28, Try.ntmps28
  go_wp2
  have h0 := heap_alloc_new w (.cells #[.int .i64 31, .int .u64 0] 31 (0, 0))
  exact bodyPost_ret (v := ja (31, 0)) (resJ _ _ _ w.heap.size 4 _ _ rfl rfl (by simp only [World.cell?, h0]; rfl) (by simp only [World.cell?, h0]; rfl)) rfl ⟨rfl, (Below.refl _ _).alloc (Nat.le_refl _) _⟩
set_option maxRecDepth 100000 in
theorem marksof_yes (B gj gm N : Nat) (t : Fn) (p : Ps) (ms : List Nat) (pv mv : Value) (w : World) (h : JS X B gj gm N t p ms pv mv w) :
    Calls Try.prog 28 #[.pointer (some ⟨gj, 0, none⟩), .bool true] w fun e w' => e = .returned (ja (0, ms.length)) ∧ Below w.heap.size w w' := by
  have K : Hid (∀ W : World, Below w.heap.size w W → Calls Try.prog 39 #[.pointer (some ⟨gj, 0, none⟩)] W fun e w' => e = .returned (.int .i64 (ms.length : Int)) ∧ w' = W) := fun W hW => marks_any B gj gm N t p ms pv mv W (h.below hW)
  have hl := own_le h.mw
  have e0 : IntKind.u64.wrap (ms.length : Int) = (ms.length : Int) := by rw [IntKind.wrap_u64]; unfold maxLen at hl; omega
  have E0 : Hid _ := e0
  generalize ms.length = n at *
  clear h hl e0
  go_enter Try.func28, Try.ntmps28
  go_wp2_with fail
  refine (K.out _ ((Below.refl _ _).alloc (Nat.le_refl _) _)).mono ?_
  rintro e w1 ⟨rfl, rfl⟩
  go_wp2
  have h0 := heap_alloc_new w (.cells #[.int .i64 0, .int .u64 (IntKind.u64.wrap (n : Int))] 31 (0, 0))
  exact bodyPost_ret (v := .agg #[.int .i64 0, .int .u64 (IntKind.u64.wrap (n : Int))]) (resJ _ _ _ w.heap.size 4 _ _ rfl rfl (by simp only [World.cell?, h0]; rfl) (by simp only [World.cell?, h0]; rfl)) rfl ⟨by rw [E0.out]; rfl, (Below.refl _ _).alloc (Nat.le_refl _) _⟩
theorem infoC : (Try.prog.info? 79).map (fun i => (i.zero, i.size, i.bytes)) = some (some (.agg #[.int .u64 0, .int .u64 0, .bool false]), 3, 24) := by kernel_rfl
theorem infoI : (Try.prog.info? 3).map (fun i => (i.zero, i.size, i.bytes)) = some (some (.int .i64 0), 1, 8) := by kernel_rfl
theorem new3 {W : World} {a b c : Value} {T : TypeId} : ∀ j u, [a, b, c][j]? = some u → (W.alloc (.cells #[a, b, c] T (0, 0))).cell? ((⟨W.heap.size, 0, none⟩ : Addr).add j) = some u := by
  intro j u hu
  have h := heap_alloc_new W (.cells #[a, b, c] T (0, 0))
  have hj : j = 0 ∨ j = 1 ∨ j = 2 := by
    have := (List.getElem?_eq_some_iff.1 hu).1
    simp at this
    omega
  rcases hj with rfl | rfl | rfl <;> (rw [Go.WideShapes.add_plain]; simp only [World.cell?, h]; exact hu)
theorem size_alloc' (w : World) (o : Obj) : (w.alloc o).heap.size = w.heap.size + 1 := by simp
theorem gb_al {w w1 : World} {o : Obj} {r : Option Nat} (hg : (w.alloc o).grownBy w1 r) : w.grownBy w1 r := (World.grownBy_alloc w o r).trans hg
theorem pw_ne {B gj gm N : Nat} {t : Fn} {p : Ps} {ms : List Nat} {pv mv : Value} {w : World} (h : JS X B gj gm N t p ms pv mv w) : some gj ≠ pv.ownBlock := fun e => by have := (h.pw.lt gj e.symm).1; have := h.lj; omega
theorem mw_ne {B gj gm N : Nat} {t : Fn} {p : Ps} {ms : List Nat} {pv mv : Value} {w : World} (h : JS X B gj gm N t p ms pv mv w) : some gj ≠ mv.ownBlock := fun e => by have := (h.mw.lt gj e.symm).1; have := h.lj; omega
set_option maxRecDepth 100000 in
theorem remember_no (B gj gm N k : Nat) (t : Fn) (p : Ps) (pv mv : Value) (w : World) (h : JS X B gj gm N t p [] pv mv w) :
    Calls Try.prog 47 #[.pointer (some ⟨gj, 0, none⟩), .int .u64 (k : Int)] w fun e w' => e = .returned (.tuple #[]) ∧ w' = w := by
  have c2 := h.c2
  obtain ⟨ao, cap, rfl⟩ := own_form h.mw
  clear h
  go_enter Try.func47, Try.ntmps47
  go_wp2
  exact bodyPost_ret (results_none rfl _ _ _) rfl ⟨rfl, rfl⟩
/-- What is remembered. -/
def rem (t : Fn) (p : Ps) (ms : List Nat) (k : Nat) : Ps := if ms = [] then p else p ++ [(k, t k)]
def RP (X : Nat → Prop) (B gj gm N : Nat) (t : Fn) (p : Ps) (ms : List Nat) (mv : Value) (w : World) (e : Ending) (w' : World) : Prop := e = .returned (.tuple #[]) ∧ ∃ pv', JS X B gj gm N t p ms pv' mv w' ∧ Kj X B gj gm w w'
set_option maxHeartbeats 2000000 in
set_option maxRecDepth 100000 in
theorem remember_yes (B gj gm N k m : Nat) (t : Fn) (p : Ps) (ms : List Nat) (pv mv : Value) (w : World) (h : JS X B gj gm N t p (m :: ms) pv mv w) (hk : k < 18446744073709551616) (hp : p.length ≤ 4194304) :
    Calls Try.prog 47 #[.pointer (some ⟨gj, 0, none⟩), .int .u64 (k : Int)] w (RP X B gj gm (N + 1) t (p ++ [(k, t k)]) (m :: ms) mv w) := by
  obtain ⟨a1, k1, rfl⟩ := own_form h.pw
  have H : Hid _ := h
  obtain ⟨D, n, h1, h2, h3⟩ := h.mp
  have c0 := h.c0
  have c1 := h.c1
  have c2 := h.c2
  have f1 := h.f
  obtain ⟨v, ev⟩ : ∃ v, v = t k := ⟨_, rfl⟩
  obtain ⟨bb, eb⟩ : ∃ bb, bb = decide (t k ≠ 0) := ⟨_, rfl⟩
  have HD : Hid (Maps.has D (ky k) = bb ∧ D.atKey (ky k) (.lit (.int .u64 0)) = .lit (.int .u64 (v : Int))) := by rw [ev, eb]; exact h3.1 k hk
  have HV : Hid (cps (p ++ [(k, t k)]) = cps p ++ [.int .u64 (k : Int), .int .u64 (v : Int), .bool bb]) := by rw [ev, eb]; exact cps_app _ _
  have hkey := keyU hk
  have HB : B ≤ w.heap.size := h.hi
  obtain ⟨ao, cap, em⟩ := own_form h.mw
  obtain ⟨i0, hi, hz0, hz1, hz2⟩ := info_parts infoC
  have hpw : Hid (w.ownsRow B 79 3 (.slice a1 p.length k1) p.length (cps p)) := h.pw
  have tz : decide ((ms.length : Int) + 1 = 0) = false := decide_eq_false (by omega)
  have tz2 : (((ms.length : Int) + 1) == 0) = false := by rw [beq_eq_false_iff_ne]; omega
  rw [em] at c2
  rw [List.length_cons] at c2
  have hlj : gj < w.heap.size := Nat.lt_of_lt_of_le h.lj h.hi
  clear h h2 h3 hk em ev eb
  go_enter Try.func47, Try.ntmps47
  go_upto_region 2 with (at_lookup; refine wpList_lookup_own_ok_int _ rfl _ _ 48 rfl 29 29 .u64 lawU Try.underlying48 Try.underlying29 (zeroU _) gm n D rfl h1 _ _ rfl hkey ?_; intro c hat hwc; have ec : c = (v : Int) := (by have := hat.symm.trans HD.out.2; injection this with this; injection this); subst ec; rw [HD.out.1]; clear h1 hkey hat hwc HD)
  go_wp2_with (at_builtin; refine wpList_append_own_at _ rfl _ _ 59 rfl B 79 i0 (.agg #[.int .u64 0, .int .u64 0, .bool false]) 3 24 Try.underlying59 hi hz0 hz1 hz2 rfl (by decide) _ _ _ rfl (own_n hpw.out (World.grownBy_alloc w _ none)) ⟨w.heap.size, 0, none⟩ 1 1 [.int .u64 (k : Int), .int .u64 (v : Int), .bool bb] rfl rfl new3 (by simp [Value.oneCell']) (by unfold maxLen; omega) (by omega) (by simp; omega) ?_; intro v' w1 hown hgrow hnil hloc; obtain ⟨g', cap', rfl, hg1, hg2⟩ := hown.form (by omega); have HO : Hid (w1.ownsRow B 79 3 (.slice (some ⟨g', 0, none⟩) (p.length + 1) cap') (p.length + 1) (cps p ++ [.int .u64 (k : Int), .int .u64 (v : Int), .bool bb])) := hown; have HG : Hid (w.grownBy w1 (Value.ownBlock (.slice a1 p.length k1))) := gb_al hgrow; have hbj := HG.out.block gj hlj (pw_ne H.out); have d1 : w1.cell? ⟨gj, 1, none⟩ = some (.slice a1 p.length k1) := (World.cell?_of_block (a := ⟨gj, 1, none⟩) hbj).trans c1; have g1 : ∀ o, w1.frozen? ⟨gj, o, none⟩ = false := (fun o => (World.frozen?_of_block (a := ⟨gj, o, none⟩) hbj).trans (f1 o)); have HL : Hid (Value.ownBlock (.slice (some ⟨g', 0, none⟩) (p.length + 1) cap') = Value.ownBlock (.slice a1 p.length k1) ∨ Value.ownBlock (.slice (some ⟨g', 0, none⟩) (p.length + 1) cap') = some (w.heap.size + 1)) := (by rw [← size_alloc']; exact hloc); clear hown hgrow hnil hloc hbj hg1 hg2 c0 c1 c2 f1 hi hz0 hz1 hz2 hpw HB hlj)
  have HO2 : w1.ownsRow B 79 3 (.slice (some ⟨g', 0, none⟩) (p.length + 1) cap') (p ++ [(k, t k)]).length (cps (p ++ [(k, t k)])) := by rw [HV.out, List.length_append]; exact HO.out
  obtain ⟨r1, r2⟩ := H.out.past (p' := p ++ [(k, t k)]) (d := 1) HG.out HO2 (fun g e => by
    rcases HL.out with h | h
    · exact .inl (h ▸ e)
    · rw [h] at e
      injection e with e
      exact .inr (by omega)) (by rw [List.length_append]; exact Nat.le_refl _)
  go_end0
  exact ⟨rfl, _, r1, r2⟩
theorem remember_any (B gj gm N k : Nat) (t : Fn) (p : Ps) (ms : List Nat) (pv mv : Value) (w : World) (h : JS X B gj gm N t p ms pv mv w) (hk : k < 18446744073709551616) (hp : p.length ≤ 4194304) :
    Calls Try.prog 47 #[.pointer (some ⟨gj, 0, none⟩), .int .u64 (k : Int)] w (RP X B gj gm (N + 1) t (rem t p ms k) ms mv w) := by
  cases ms with
  | nil => exact (remember_no B gj gm N k t p pv mv w h).mono fun e w' he => ⟨he.1, pv, by rw [he.2]; exact h.mono (Nat.le_succ _), by rw [he.2]; exact Kj_refl _ _ _ _⟩
  | cons m ms => exact remember_yes B gj gm N k m t p ms pv mv w h hk hp
set_option maxHeartbeats 2000000 in
set_option maxRecDepth 100000 in
theorem set_any (B gj gm N k v : Nat) (t : Fn) (p : Ps) (ms : List Nat) (pv mv : Value) (w : World) (h : JS X B gj gm N t p ms pv mv w) (hk : k < 18446744073709551616) (hv : v < 18446744073709551616) (h0 : v ≠ 0) (hN : N ≤ 4194303) :
    Calls Try.prog 38 #[.pointer (some ⟨gj, 0, none⟩), .int .u64 (k : Int), .int .u64 (v : Int)] w (RP X B gj gm (N + 2) (upd t k v) (rem t p ms k) ms mv w) := by
  have hp : p.length ≤ 4194304 := by obtain ⟨D, n, _, h2, _⟩ := h.mp; omega
  have K : Hid (Calls Try.prog 47 #[.pointer (some ⟨gj, 0, none⟩), .int .u64 (k : Int)] w (RP X B gj gm (N + 1) t (rem t p ms k) ms mv w)) := remember_any B gj gm N k t p ms pv mv w h hk hp
  have hkey := keyU hk
  have HV : Hid (∀ D, Mp D t → IsMap D → Mp (D.put (ky k) (.lit (.int .u64 (v : Int)))) (upd t k v)) := fun D h hm => Mp_put h hm hk hv h0
  have hwf := wfU hv
  clear h hp hk hv h0
  go_enter Try.func38, Try.ntmps38
  go_wp2_with fail
  refine K.out.mono ?_
  rintro e w1 ⟨rfl, pv1, H1, K1⟩
  obtain ⟨D, n, h1, h2, h3⟩ := H1.mp
  have c0 := H1.c0
  have HH : Hid (JS X B gj gm (N + 1) t (rem t p ms k) ms pv1 mv w1 ∧ Kj X B gj gm w w1) := ⟨H1, K1⟩
  have HD : Hid (n + (rem t p ms k).length ≤ N + 1 ∧ Mp D t) := ⟨h2, h3⟩
  have hn : n < maxLen := by unfold maxLen; omega
  clear H1 K1 h2 h3 K
  go_wp2_with (at_mapUpdate; refine wpList_mapUpdate_in _ rfl _ _ _ 48 rfl 29 29 lawU Try.underlying48 _ gm n D rfl h1 hn _ _ _ rfl rfl hkey _ [] (plainElem_int Try.underlying29 hwf) ?_; intro w2 hown hturn)
  obtain ⟨r1, r2⟩ := turned (d := 1) (t' := upd t k v) HH.out.1 hturn.grown ⟨_, _, hown, by have := HD.out.1; omega, HV.out _ HD.out.2 h1.isMap⟩
  go_end0
  exact ⟨rfl, pv1, r1, Kj_trans HH.out.2 r2⟩
set_option maxHeartbeats 2000000 in
set_option maxRecDepth 100000 in
theorem drop_any (B gj gm N k : Nat) (t : Fn) (p : Ps) (ms : List Nat) (pv mv : Value) (w : World) (h : JS X B gj gm N t p ms pv mv w) (hk : k < 18446744073709551616) (hN : N ≤ 4194303) :
    Calls Try.prog 37 #[.pointer (some ⟨gj, 0, none⟩), .int .u64 (k : Int)] w (RP X B gj gm (N + 2) (upd t k 0) (rem t p ms k) ms mv w) := by
  have hp : p.length ≤ 4194304 := by obtain ⟨D, n, _, h2, _⟩ := h.mp; omega
  have K : Hid (Calls Try.prog 47 #[.pointer (some ⟨gj, 0, none⟩), .int .u64 (k : Int)] w (RP X B gj gm (N + 1) t (rem t p ms k) ms mv w)) := remember_any B gj gm N k t p ms pv mv w h hk hp
  have hkey := keyU hk
  have HV : Hid (∀ D, Mp D t → Mp (D.del (ky k)) (upd t k 0)) := fun D h => Mp_del h hk
  clear h hp hk
  go_enter Try.func37, Try.ntmps37
  go_wp2_with fail
  refine K.out.mono ?_
  rintro e w1 ⟨rfl, pv1, H1, K1⟩
  obtain ⟨D, n, h1, h2, h3⟩ := H1.mp
  have c0 := H1.c0
  have HH : Hid (JS X B gj gm (N + 1) t (rem t p ms k) ms pv1 mv w1 ∧ Kj X B gj gm w w1) := ⟨H1, K1⟩
  have HD : Hid (n + (rem t p ms k).length ≤ N + 1 ∧ Mp D t) := ⟨h2, h3⟩
  clear H1 K1 h2 h3 K
  go_wp2_with (at_delete; refine wpList_delete_own _ rfl _ _ 48 29 rfl 29 lawU Try.underlying48 _ gm n D rfl h1 _ _ rfl hkey ?_; intro w2 hown hturn)
  obtain ⟨r1, r2⟩ := turned (d := 1) (t' := upd t k 0) HH.out.1 hturn.grown ⟨_, _, hown, by have := HD.out.1; omega, HV.out _ HD.out.2⟩
  go_end0
  exact ⟨rfl, pv1, r1, Kj_trans HH.out.2 r2⟩
set_option maxRecDepth 100000 in
theorem setdrop_any (B gj gm N k v : Nat) (t : Fn) (p : Ps) (ms : List Nat) (pv mv : Value) (w : World) (h : JS X B gj gm N t p ms pv mv w) (hk : k < 18446744073709551616) (hv : v < 18446744073709551616) (hN : N ≤ 4194303) :
    Calls Try.prog 25 #[.pointer (some ⟨gj, 0, none⟩), .int .u64 (k : Int), .int .u64 (v : Int)] w (RP X B gj gm (N + 2) (upd t k v) (rem t p ms k) ms mv w) := by
  by_cases h0 : v = 0
  · subst h0
    have K : Hid (Calls Try.prog 37 #[.pointer (some ⟨gj, 0, none⟩), .int .u64 (k : Int)] w (RP X B gj gm (N + 2) (upd t k 0) (rem t p ms k) ms mv w)) := drop_any B gj gm N k t p ms pv mv w h hk hN
    clear h
    go_enter Try.func25, Try.ntmps25
    go_wp2_with fail
    refine K.out.mono ?_
    rintro e w1 ⟨rfl, H1⟩
    have HH : Hid _ := H1
    clear H1 K
    go_wp2_with fail
    exact bodyPost_ret (results_none rfl _ _ _) rfl ⟨rfl, HH.out⟩
  · have K : Hid (Calls Try.prog 38 #[.pointer (some ⟨gj, 0, none⟩), .int .u64 (k : Int), .int .u64 (v : Int)] w (RP X B gj gm (N + 2) (upd t k v) (rem t p ms k) ms mv w)) := set_any B gj gm N k v t p ms pv mv w h hk hv h0 hN
    have t0 : ((v : Int) == 0) = false := by rw [beq_eq_false_iff_ne]; omega
    have t1 : decide ((v : Int) = 0) = false := decide_eq_false (by omega)
    have t2 : ¬ ((v : Int) = 0) := by omega
    clear h hk hv
    go_enter Try.func25, Try.ntmps25
    go_wp2_with fail
    refine K.out.mono ?_
    rintro e w1 ⟨rfl, H1⟩
    have HH : Hid _ := H1
    clear H1 K
    go_wp2_with fail
    go_end0
    exact ⟨rfl, HH.out⟩
end Jn
end Go.Proofs.Ytengpjalkiibiaa
/- A region that draws its order among its first operations alone, the others one behind the other. -/
namespace Go.Proofs.Ytengpjalkiibiaa
namespace RS
open RI
variable {P : Program} {ops : Array Oper} {Q : Exit → Act → World → Prop}
/-- From k on each operation is bound to all ahead of it. -/
def tailOk (ops : Array Oper) (k : Nat) : Bool := (List.range ops.size).all fun j => decide (j < k) || ((ops[j]?).map fun o => (List.range j).all fun i => bindsOn o i).getD true
theorem bindsOn_spec {x : Oper} {j : Nat} (h : bindsOn x j = true) : ∃ e, e ∈ x.after ∧ Region.binds .any e = true ∧ e.on = j := by
  unfold bindsOn at h
  rw [Array.any_eq_true'] at h
  obtain ⟨e, h1, h2⟩ := h
  rw [Bool.and_eq_true, beq_iff_eq] at h2
  exact ⟨e, h1, h2.1, h2.2⟩
/-- The first k in the text's order, whatever order is drawn; the others one behind the other. -/
theorem wp_region_tail {id : Nat} {a : Act} {w : World} (S : World → Prop) (k : Nat) (hm : P.follows .mixedOrders = true) (hok : okOps ops = true) (ht : tailOk ops k = true) (h0 : S w.drew)
    (hs : Seq P ops (fun _ => S) (fun a' => ∀ w', S w' → wpList P ops Q (ops.toList.drop k) a' w') 0 (ops.toList.take k) a) : (Code.region id ops true).wp P Q a w := by
  have hok' := hok
  unfold okOps at hok'
  rw [Bool.and_eq_true] at hok'
  obtain ⟨he, hp⟩ := hok'
  by_cases hk : k ≤ ops.size
  case neg =>
    refine wp_region_seq (fun _ => S) hm hok h0 ?_
    have e1 : ops.toList.take k = ops.toList := List.take_of_length_le (by simp; omega)
    have e2 : ops.toList.drop k = [] := List.drop_eq_nil_of_le (by simp; omega)
    rw [e1, e2] at hs
    have : ∀ l i a, Seq P ops (fun _ => S) (fun a' => ∀ w', S w' → wpList P ops Q [] a' w') i l a → Seq P ops (fun _ => S) (fun a' => ∀ (d : Nat → Bool) w', S w' → (∀ i, i < ops.size → d i = true) → Q .normal a' w') i l a := by
      intro l
      induction l with
      | nil => intro i a h d w' hI _; exact h w' hI
      | cons o r ih => intro i a h; obtain ⟨v, h1, h2⟩ := h; exact ⟨v, h1, ih _ _ h2⟩
    exact this _ _ _ hs
  have hlen : (ops.toList.take k).length = k := by simp; omega
  -- the first k alone
  have vals : ∀ (l : List Oper) (m : Nat) (V : Nat → Value), (∀ j o, l[j]? = some o → ops[m + j]? = some o) → Seq P ops (fun _ => S) (fun a' => ∀ w', S w' → wpList P ops Q (ops.toList.drop k) a' w') m l (fr ops V tt a m) →
      ∃ V', (∀ j, j < m → V' j = V j) ∧ (∀ j o, l[j]? = some o → Step P ops (fun _ => S) (m + j) o (V' (m + j)) (fr ops V' tt a (m + j))) ∧ ∀ w', S w' → wpList P ops Q (ops.toList.drop k) (fr ops V' tt a (m + l.length)) w' := by
    intro l
    induction l with
    | nil => intro m V _ h; exact ⟨V, fun _ _ => rfl, fun j o hj => by simp at hj, by simpa [Seq] using h⟩
    | cons o r ih =>
      intro m V hl h
      obtain ⟨v, h1, h2⟩ := h
      have hkm : ops[m]? = some o := by simpa using hl 0 o rfl
      have frV : ∀ V1 V2 : Nat → Value, ∀ n, (∀ j, j < n → V1 j = V2 j) → fr ops V1 tt a n = fr ops V2 tt a n := by
        intro V1 V2 n
        induction n with
        | zero => intro _; rfl
        | succ n ih => intro hv; rw [fr, fr, ih (fun j hj => hv j (by omega)), hv n (by omega)]
      let W : Nat → Value := fun j => if j = m then v else V j
      have hW : fr ops W tt a (m + 1) = (fr ops V tt a m).put o.dst v := by
        rw [fr, frV W V m (fun j hj => by simp only [W]; rw [if_neg (by omega)])]
        simp [tt, hkm, W]
      rw [← hW] at h2
      obtain ⟨V', e1, e2, e3⟩ := ih (m + 1) W (fun j o' hj => by have := hl (j + 1) o' (by simpa using hj); rwa [show m + (j + 1) = m + 1 + j by omega] at this) h2
      refine ⟨V', fun j hj => ?_, fun j o' hj => ?_, ?_⟩
      · rw [e1 j (by omega)]; simp only [W]; rw [if_neg (by omega)]
      · cases j with
        | zero =>
          have : o' = o := by simpa using hj.symm
          subst this
          rw [Nat.add_zero, e1 m (by omega), frV V' V m (fun j hj => by rw [e1 j (by omega)]; simp only [W]; rw [if_neg (by omega)])]
          simpa [W] using h1
        | succ j => rw [show m + (j + 1) = m + 1 + j by omega]; exact e2 j o' (by simpa using hj)
      · rw [show m + (o :: r).length = m + 1 + r.length by simp; omega]; exact e3
  obtain ⟨V, _, hst, hE⟩ := vals (ops.toList.take k) 0 (fun _ => undef) (fun j o hj => by
    rw [List.getElem?_take] at hj
    split at hj
    · simpa using hj
    · cases hj) hs
  simp only [Nat.zero_add] at hst hE
  rw [hlen] at hE
  have pair : ∀ (i j : Nat) (x y : Oper) (t : Nat), ops[i]? = some x → ops[j]? = some y → y.dst = some t → (x.dst = some t → i = j) ∧ (t ∈ x.looksAt ops → (j < i ∧ bindsOn x j = true) ∨ (i < j ∧ bindsOn y i = true)) := by
    intro i j x y t hx hy ht
    have hi : i < ops.size := (Array.getElem?_eq_some_iff.1 hx).1
    have hj : j < ops.size := (Array.getElem?_eq_some_iff.1 hy).1
    have h1 := List.all_eq_true.1 hp i (List.mem_range.2 hi)
    rw [Bool.and_eq_true] at h1
    have h2 := List.all_eq_true.1 h1.2 j (List.mem_range.2 hj)
    unfold pairOk at h2
    simp only [hx, hy, ht] at h2
    simp at h2
    refine ⟨fun e => h2.1.resolve_left (fun h => h e), fun hm => ?_⟩
    rcases h2.2 with (h | h) | h
    · exact absurd hm h
    · exact .inl h
    · exact .inr h
  have nosel : ∀ (i : Nat) (x : Oper) cs b, ops[i]? = some x → x.op ≠ .select cs b := by
    intro i x cs b hx hc
    have hi : i < ops.size := (Array.getElem?_eq_some_iff.1 hx).1
    have h1 := List.all_eq_true.1 hp i (List.mem_range.2 hi)
    rw [Bool.and_eq_true, hx] at h1
    simp [hc, isSel] at h1
  have tailb : ∀ (d : Nat → Bool) (j : Nat), k ≤ j → j < ops.size → may ops d j → ∀ i, i < j → d i = true := by
    intro d j hkj hj hmay i hij
    have h1 := List.all_eq_true.1 ht j (List.mem_range.2 hj)
    rw [Bool.or_eq_true, Array.getElem?_eq_getElem hj] at h1
    rcases h1 with h1 | h1
    · rw [decide_eq_true_eq] at h1; omega
    · simp only [Option.map_some, Option.getD_some] at h1
      obtain ⟨e, e1, e2, e3⟩ := bindsOn_spec (List.all_eq_true.1 h1 i (List.mem_range.2 hij))
      have h2 := hmay.2 _ (Array.getElem?_eq_getElem hj)
      rw [Array.all_eq_true_iff_forall_mem] at h2
      have h3 := h2 e e1
      rw [e2, e3] at h3
      simpa using h3
  let J1 : (Nat → Bool) → Act → World → Prop := fun d x wx => x = fr ops V d a ops.size ∧ S wx ∧ (∀ j o, ops[j]? = some o → d j = true → ∀ e, e ∈ o.after → Region.binds .any e = true → d e.on = true) ∧ (∀ j, k ≤ j → d j = false) ∧ ∃ j, j < k ∧ d j = false
  let J2 : (Nat → Bool) → Act → World → Prop := fun d x wx => ∃ m, k ≤ m ∧ (∀ j, d j = decide (j < m)) ∧ wpList P ops Q (ops.toList.drop m) x wx
  have enter : ∀ d x wx, x = fr ops V d a ops.size → S wx → (∀ j, k ≤ j → d j = false) → (∀ j, j < k → d j = true) → J2 d x wx := by
    intro d x wx hx hS hf htr
    refine ⟨k, Nat.le_refl _, fun j => ?_, ?_⟩
    · by_cases hj : j < k
      · rw [htr j hj, decide_eq_true hj]
      · rw [hf j (by omega), decide_eq_false hj]
    · have key : ∀ n, k ≤ n → fr ops V d a n = fr ops V tt a k := by
        intro n
        induction n with
        | zero => intro h; have : k = 0 := by omega
                  subst this; rfl
        | succ n ih =>
          intro h
          by_cases hn : k ≤ n
          · rw [fr, hf n hn, ih hn]; simp
          · have : k = n + 1 := by omega
            subst this
            exact fr_congr V a d tt (n + 1) (fun j hj => htr j hj)
      rw [hx, key ops.size hk]
      exact hE wx hS
  refine wp_region_inv (fun d x wx => J1 d x wx ∨ J2 d x wx) hm he ?_ ?_ ?_
  · have hz : fr ops V (fun _ => false) a ops.size = a := by
      have : ∀ k, fr ops V (fun _ => false) a k = a := by
        intro k
        induction k with
        | zero => rfl
        | succ k ih => rw [fr, ih]; simp
      exact this _
    by_cases hk0 : k = 0
    · exact .inr (enter _ _ _ hz.symm h0 (fun _ _ => rfl) (fun j hj => by omega))
    · exact .inl ⟨hz.symm, h0, (fun _ _ _ h => by cases h), (fun _ _ => rfl), 0, by omega, rfl⟩
  · rintro d x wx i (⟨rfl, hI, hcl, hfz, j0, hj0, hdj0⟩ | ⟨m, hkm, hd, hw⟩) hi hmay
    · have hik : i < k := by
        rcases Nat.lt_or_ge i k with h | h
        · exact h
        · have := tailb d i h hi hmay j0 (by omega)
          rw [hdj0] at this; cases this
      obtain ⟨o, ho⟩ : ∃ o, ops[i]? = some o := ⟨ops[i], Array.getElem?_eq_getElem hi⟩
      have hdeps : ∀ e, e ∈ o.after → Region.binds .any e = true → d e.on = true := by
        intro e h1 h2
        have := hmay.2 o ho
        rw [Array.all_eq_true_iff_forall_mem] at this
        have := this e h1
        rw [h2] at this
        simpa using this
      have hsame : ∀ t, t ∈ o.looksAt ops → (fr ops V d a ops.size).tmps[t]? = (fr ops V tt a i).tmps[t]? := by
        intro t ht
        have := fr_get (ops := ops) V a d i t ops.size (fun j hj hjt => by
          obtain ⟨y, hy⟩ : ∃ y, ops[j]? = some y := ⟨ops[j], Array.getElem?_eq_getElem hj⟩
          rw [hy] at hjt
          rcases (pair i j o y t ho hy hjt).2 ht with ⟨h1, h2⟩ | ⟨h1, h2⟩
          · obtain ⟨e, e1, e2, e3⟩ := bindsOn_spec h2
            exact .inl ⟨h1, e3 ▸ hdeps e e1 e2⟩
          · refine .inr ⟨h1, ?_⟩
            cases hdj : d j with
            | false => rfl
            | true =>
              obtain ⟨e, e1, e2, e3⟩ := bindsOn_spec h2
              have := hcl j y hy hdj e e1 e2
              rw [e3, hmay.1] at this; cases this)
        rw [this, show min ops.size i = i by omega]
      have hex : execOp (fr ops V d a ops.size).eval o = execOp (fr ops V tt a i).eval o := by
        refine execOp_congr o (fun cs b => nosel i o cs b ho) (fun x hx => ?_)
        cases x with
        | tmp t => exact eval_get (hsame t (mem_looks hx))
        | _ => rfl
      have hwa := wanted_get hsame
      have hput : ∀ v, v = V i → (fr ops V d a ops.size).put o.dst v = fr ops V (don d i) a ops.size := by
        rintro v rfl
        rw [fr_put V a d i hmay.1 ops.size (fun j hj hne t ht => fun hjt => ?_), if_pos hi, ho]
        · rfl
        · obtain ⟨y, hy⟩ : ∃ y, ops[j]? = some y := ⟨ops[j], Array.getElem?_eq_getElem hj⟩
          rw [hy] at hjt
          rw [ho] at ht
          exact hne ((pair i j o y t ho hy hjt).1 ht).symm
      have hclo : ∀ j o', ops[j]? = some o' → don d i j = true → ∀ e, e ∈ o'.after → Region.binds .any e = true → don d i e.on = true := by
        intro j o' hj hdj e e1 e2
        have : d e.on = true := by
          by_cases hji : j = i
          · subst hji
            rw [ho] at hj
            cases hj
            exact hdeps e e1 e2
          · rw [don_other _ _ _ hji] at hdj
            exact hcl j o' hj hdj e e1 e2
        unfold don; split
        · rfl
        · exact this
      have hnext : ∀ x w', x = fr ops V (don d i) a ops.size → S w' → J1 (don d i) x w' ∨ J2 (don d i) x w' := by
        intro x w' hx hS'
        have hf' : ∀ j, k ≤ j → don d i j = false := fun j hj => by rw [don_other _ _ _ (by omega)]; exact hfz j hj
        by_cases hall : ∀ j, j < k → don d i j = true
        · exact .inr (enter _ _ _ hx hS' hf' hall)
        · refine .inl ⟨hx, hS', hclo, hf', ?_⟩
          rw [Classical.not_forall] at hall
          obtain ⟨j, hj⟩ := hall
          rw [Classical.not_imp] at hj
          exact ⟨j, hj.1, by simpa using hj.2⟩
      unfold wpOp
      rw [ho]
      simp only
      rcases hst i o (by rw [List.getElem?_take, if_pos hik]; simpa using ho) with ⟨h1, h2⟩ | ⟨h1, h2, h3⟩
      · rw [hwa, h1, if_pos rfl]
        refine .inl ?_
        unfold Oper.wp
        rw [hex]
        exact upv_upon (h2 _ d wx hI hmay (fun w' hI' => hnext _ _ (hput _ rfl) hI'))
      · rw [hwa, h1]
        simp only [Bool.false_eq_true, if_false]
        exact hnext _ _ (hput _ h2.symm) (h3 d wx hI hmay)
    · have him : i = m := by
        have h1 : ¬ i < m := by intro h; have := hmay.1; rw [hd, decide_eq_true h] at this; cases this
        have h2 : ¬ m < i := by
          intro h
          have := tailb d i (by omega) hi hmay m h
          rw [hd, decide_eq_false (by omega)] at this; cases this
        omega
      subst him
      have hdr : ops.toList.drop i = ops[i] :: ops.toList.drop (i + 1) := by
        rw [List.drop_eq_getElem_cons (by simpa using hi)]; simp
      rw [hdr] at hw
      have key : ∀ x' w', wpList P ops Q (ops.toList.drop (i + 1)) x' w' → J1 (don d i) x' w' ∨ J2 (don d i) x' w' := fun x' w' h => .inr ⟨i + 1, by omega, fun j => by
        by_cases hj : j = i
        · subst hj; rw [don_same, decide_eq_true (by omega)]
        · rw [don_other _ _ _ hj, hd, decide_eq_decide]; omega, h⟩
      refine wpOp_mono key ?_
      unfold wpOp
      rw [Array.getElem?_eq_getElem hi]
      exact hw
  · rintro d x wx (⟨_, _, _, _, j, hj, hdj⟩ | ⟨m, hkm, hd, hw⟩) hall
    · have := hall j (by omega)
      rw [hdj] at this; cases this
    · have : ops.size ≤ m := by
        rcases Nat.lt_or_ge m ops.size with h | h
        · have := hall m h
          rw [hd, decide_eq_false (by omega)] at this; cases this
        · exact h
      rw [List.drop_eq_nil_of_le (by simpa using this)] at hw
      exact hw
/-- A region that draws nothing, its first k operations walked by their values. -/
theorem wp_region_flat {id : Nat} {a : Act} {w : World} (S : World → Prop) (k : Nat) (he : RI.early ops = true) (h0 : S w)
    (hs : Seq P ops (fun _ => S) (fun a' => ∀ w', S w' → wpList P ops Q (ops.toList.drop k) a' w') 0 (ops.toList.take k) a) : (Code.region id ops false).wp P Q a w := by
  refine wp_region_list ?_
  have key : ∀ (l : List Oper) (i : Nat) (a : Act) (w : World), (∀ j o, l[j]? = some o → ops[i + j]? = some o) → S w → Seq P ops (fun _ => S) (fun a' => ∀ w', S w' → wpList P ops Q (ops.toList.drop k) a' w') i l a → wpList P ops Q (l ++ ops.toList.drop k) a w := by
    intro l
    induction l with
    | nil => intro i a w _ hS h; exact h w hS
    | cons o r ih =>
      intro i a w hl hS h
      obtain ⟨v, h1, h2⟩ := h
      have hi : ops[i]? = some o := by simpa using hl 0 o rfl
      have hsz : i < ops.size := (Array.getElem?_eq_some_iff.1 hi).1
      have hmay : may ops (fun j => decide (j < i)) i := by
        refine ⟨by simp, fun o' ho' => ?_⟩
        have h3 := List.all_eq_true.1 he i (List.mem_range.2 hsz)
        rw [ho'] at h3
        simp only [Option.map_some, Option.getD_some] at h3
        exact h3
      have hr : ∀ a' w', S w' → a' = a.put o.dst v → wpList P ops Q (r ++ ops.toList.drop k) a' w' := fun a' w' hS' e => by
        subst e
        exact ih (i + 1) _ w' (fun j o' hj => by have := hl (j + 1) o' (by simpa using hj); rwa [show i + (j + 1) = i + 1 + j by omega] at this) hS' h2
      rw [List.cons_append]
      unfold wpList
      rcases h1 with ⟨h3, h4⟩ | ⟨h3, h4, h5⟩
      · rw [if_pos h3]
        refine .inl ?_
        unfold Oper.wp
        exact upv_upon (h4 _ _ w hS hmay (fun w' hS' => hr _ w' hS' rfl))
      · rw [if_neg (by rw [h3]; decide), ← h4]
        exact hr _ w hS rfl
  have := key (ops.toList.take k) 0 a w (fun j o hj => by
    rw [List.getElem?_take] at hj
    split at hj
    · simpa using hj
    · cases hj) h0 hs
  rwa [List.take_append_drop] at this
end RS
end Go.Proofs.Ytengpjalkiibiaa
/- A region that draws its order: values that stand fast whatever the order, new blocks that come whenever, and behind all these the rest, one behind the other. -/
namespace Go.Proofs.Ytengpjalkiibiaa
namespace RN
open RI RS Go.RowKit
variable {P : Program} {ops : Array Oper} {Q : Exit → Act → World → Prop}
def StepB (P : Program) (ops : Array Oper) (S : World → Prop) (o : Oper) (v : Value) (a : Act) : Prop :=
  (Region.wanted o (yielded ops a.tmps) = true ∧ ∀ (K : Value → World → Prop) w, S w → (∀ w', Below w.heap.size w w' → K v w') → upv P K ((execOp a.eval o).run P w)) ∨
  (Region.wanted o (yielded ops a.tmps) = false ∧ v = undef)
def SeqB (P : Program) (ops : Array Oper) (S : World → Prop) (E : Act → Prop) : List Oper → Act → Prop
  | [], a => E a
  | o :: r, a => ∃ v, StepB P ops S o v a ∧ SeqB P ops S E r (a.put o.dst v)
/-- A value that is a new block. -/
def pv (g : Nat) : Value := .pointer (some ⟨g, 0, none⟩)
def Vg (V : Nat → Value) (p : Nat) (γ : Nat → Nat) (j : Nat) : Value := if j < p then V j else pv (γ j)
theorem seqB_vals {S : World → Prop} {E : Act → Prop} (a : Act) : ∀ (l : List Oper) (m : Nat) (V : Nat → Value), (∀ j o, l[j]? = some o → ops[m + j]? = some o) → SeqB P ops S E l (fr ops V tt a m) →
    ∃ V', (∀ j, j < m → V' j = V j) ∧ (∀ j o, l[j]? = some o → StepB P ops S o (V' (m + j)) (fr ops V' tt a (m + j))) ∧ E (fr ops V' tt a (m + l.length))
  | [], m, V, _, h => ⟨V, fun _ _ => rfl, fun j o hj => by simp at hj, by simpa [SeqB] using h⟩
  | o :: r, m, V, hl, h => by
    obtain ⟨v, h1, h2⟩ := h
    have hkm : ops[m]? = some o := by simpa using hl 0 o rfl
    have frV : ∀ V1 V2 : Nat → Value, ∀ n, (∀ j, j < n → V1 j = V2 j) → fr ops V1 tt a n = fr ops V2 tt a n := by
      intro V1 V2 n
      induction n with
      | zero => intro _; rfl
      | succ n ih => intro hv; rw [fr, fr, ih (fun j hj => hv j (by omega)), hv n (by omega)]
    let W : Nat → Value := fun j => if j = m then v else V j
    have hW : fr ops W tt a (m + 1) = (fr ops V tt a m).put o.dst v := by
      rw [fr, frV W V m (fun j hj => by simp only [W]; rw [if_neg (by omega)])]
      simp [tt, hkm, W]
    rw [← hW] at h2
    obtain ⟨V', e1, e2, e3⟩ := seqB_vals a r (m + 1) W (fun j o' hj => by have := hl (j + 1) o' (by simpa using hj); rwa [show m + (j + 1) = m + 1 + j by omega] at this) h2
    refine ⟨V', fun j hj => ?_, fun j o' hj => ?_, ?_⟩
    · rw [e1 j (by omega)]; simp only [W]; rw [if_neg (by omega)]
    · cases j with
      | zero =>
        have : o' = o := by simpa using hj.symm
        subst this
        rw [Nat.add_zero, e1 m (by omega), frV V' V m (fun j hj => by rw [e1 j (by omega)]; simp only [W]; rw [if_neg (by omega)])]
        simpa [W] using h1
      | succ j => rw [show m + (j + 1) = m + 1 + j by omega]; exact e2 j o' (by simpa using hj)
    · rw [show m + (o :: r).length = m + 1 + r.length by simp; omega]; exact e3
theorem fr_V (a : Act) (d : Nat → Bool) (V1 V2 : Nat → Value) : ∀ n, (∀ j, j < n → d j = true → V1 j = V2 j) → fr ops V1 d a n = fr ops V2 d a n
  | 0, _ => rfl
  | n + 1, h => by
    rw [fr, fr, fr_V a d V1 V2 n (fun j hj => h j (by omega))]
    cases hd : d n with
    | false => simp
    | true => rw [h n (by omega) hd]
/-- The law. S and Y last; the first p in the text's order by their values; p to q new blocks; the rest as a list. -/
theorem wp_region_new {id : Nat} {a : Act} {w : World} (S : World → Prop) (Y : Nat → World → Prop) (p q : Nat) (hS : ∀ w1 w2, S w1 → Below w1.heap.size w1 w2 → S w2) (hY : ∀ g w1 w2, Y g w1 → Below w1.heap.size w1 w2 → Y g w2) (hYl : ∀ g w, Y g w → g < w.heap.size)
    (hm : P.follows .mixedOrders = true) (hok : okOps ops = true) (hpq : p ≤ q) (hq : q ≤ ops.size) (ht : tailOk ops q = true) (h0 : S w.drew)
    (hN : ∀ j o, p ≤ j → j < q → ops[j]? = some o → o.guard = none ∧ ∀ (ρ : Operand → Value) (K : Value → World → Prop) w, S w → (∀ w', Below w.heap.size w w' → Y w.heap.size w' → K (pv w.heap.size) w') → upv P K ((execOp ρ o).run P w))
    (hs : SeqB P ops S (fun a' => ∀ (γ : Nat → Nat) w', S w' → (∀ j, p ≤ j → j < q → Y (γ j) w') → (∀ i j, p ≤ i → i < j → j < q → γ i ≠ γ j) → ∀ V : Nat → Value, (∀ j, p ≤ j → V j = pv (γ j)) → wpList P ops Q (ops.toList.drop q) ((List.range (q - p)).foldl (fun x j => x.put ((ops[p + j]?).bind (·.dst)) (V (p + j))) a') w') (ops.toList.take p) a) : (Code.region id ops true).wp P Q a w := by
  have hok' := hok
  unfold okOps at hok'
  rw [Bool.and_eq_true] at hok'
  obtain ⟨he, hp⟩ := hok'
  have hlen : (ops.toList.take p).length = p := by simp; omega
  obtain ⟨V, _, hst, hE⟩ := seqB_vals (P := P) (ops := ops) (S := S) a (ops.toList.take p) 0 (fun _ => undef) (fun j o hj => by
    rw [List.getElem?_take] at hj
    split at hj
    · simpa using hj
    · cases hj) hs
  simp only [Nat.zero_add] at hst hE
  rw [hlen] at hE
  have pair : ∀ (i j : Nat) (x y : Oper) (t : Nat), ops[i]? = some x → ops[j]? = some y → y.dst = some t → (x.dst = some t → i = j) ∧ (t ∈ x.looksAt ops → (j < i ∧ bindsOn x j = true) ∨ (i < j ∧ bindsOn y i = true)) := by
    intro i j x y t hx hy ht
    have hi : i < ops.size := (Array.getElem?_eq_some_iff.1 hx).1
    have hj : j < ops.size := (Array.getElem?_eq_some_iff.1 hy).1
    have h1 := List.all_eq_true.1 hp i (List.mem_range.2 hi)
    rw [Bool.and_eq_true] at h1
    have h2 := List.all_eq_true.1 h1.2 j (List.mem_range.2 hj)
    unfold pairOk at h2
    simp only [hx, hy, ht] at h2
    simp at h2
    refine ⟨fun e => h2.1.resolve_left (fun h => h e), fun hm => ?_⟩
    rcases h2.2 with (h | h) | h
    · exact absurd hm h
    · exact .inl h
    · exact .inr h
  have nosel : ∀ (i : Nat) (x : Oper) cs b, ops[i]? = some x → x.op ≠ .select cs b := by
    intro i x cs b hx hc
    have hi : i < ops.size := (Array.getElem?_eq_some_iff.1 hx).1
    have h1 := List.all_eq_true.1 hp i (List.mem_range.2 hi)
    rw [Bool.and_eq_true, hx] at h1
    simp [hc, isSel] at h1
  have tailb : ∀ (d : Nat → Bool) (j : Nat), q ≤ j → j < ops.size → may ops d j → ∀ i, i < j → d i = true := by
    intro d j hkj hj hmay i hij
    have h1 := List.all_eq_true.1 ht j (List.mem_range.2 hj)
    rw [Bool.or_eq_true, Array.getElem?_eq_getElem hj] at h1
    rcases h1 with h1 | h1
    · rw [decide_eq_true_eq] at h1; omega
    · simp only [Option.map_some, Option.getD_some] at h1
      obtain ⟨e, e1, e2, e3⟩ := bindsOn_spec (List.all_eq_true.1 h1 i (List.mem_range.2 hij))
      have h2 := hmay.2 _ (Array.getElem?_eq_getElem hj)
      rw [Array.all_eq_true_iff_forall_mem] at h2
      have h3 := h2 e e1
      rw [e2, e3] at h3
      simpa using h3
  let J1 : (Nat → Bool) → Act → World → Prop := fun d x wx => ∃ γ : Nat → Nat, x = fr ops (Vg V p γ) d a ops.size ∧ S wx ∧ (∀ j, p ≤ j → j < q → d j = true → Y (γ j) wx) ∧ (∀ i j, p ≤ i → i < q → p ≤ j → j < q → i ≠ j → d i = true → d j = true → γ i ≠ γ j) ∧ (∀ j o, ops[j]? = some o → d j = true → ∀ e, e ∈ o.after → Region.binds .any e = true → d e.on = true) ∧ (∀ j, q ≤ j → d j = false) ∧ ∃ j, j < q ∧ d j = false
  let J2 : (Nat → Bool) → Act → World → Prop := fun d x wx => ∃ m, q ≤ m ∧ (∀ j, d j = decide (j < m)) ∧ wpList P ops Q (ops.toList.drop m) x wx
  have foldfr : ∀ (V' : Nat → Value) n, (List.range n).foldl (fun x j => x.put ((ops[p + j]?).bind (·.dst)) (V' (p + j))) (fr ops V' tt a p) = fr ops V' tt a (p + n) := by
    intro V' n
    induction n with
    | zero => rfl
    | succ n ih => rw [List.range_succ, List.foldl_append, ih]; rfl
  have enter : ∀ d x wx (γ : Nat → Nat), x = fr ops (Vg V p γ) d a ops.size → S wx → (∀ j, p ≤ j → j < q → Y (γ j) wx) → (∀ i j, p ≤ i → i < j → j < q → γ i ≠ γ j) → (∀ j, q ≤ j → d j = false) → (∀ j, j < q → d j = true) → J2 d x wx := by
    intro d x wx γ hx hSw hYw hdist hf htr
    refine ⟨q, Nat.le_refl _, fun j => ?_, ?_⟩
    · by_cases hj : j < q
      · rw [htr j hj, decide_eq_true hj]
      · rw [hf j (by omega), decide_eq_false hj]
    · have key : ∀ n, q ≤ n → fr ops (Vg V p γ) d a n = fr ops (Vg V p γ) tt a q := by
        intro n
        induction n with
        | zero => intro h; have : q = 0 := by omega
                  subst this; rfl
        | succ n ih =>
          intro h
          by_cases hn : q ≤ n
          · rw [fr, hf n hn, ih hn]; simp
          · have : q = n + 1 := by omega
            subst this
            exact fr_congr _ a d tt (n + 1) (fun j hj => htr j hj)
      have h1 := hE γ wx hSw hYw hdist (Vg V p γ) (fun j hj => by unfold Vg; rw [if_neg (by omega)])
      rw [fr_V a tt V (Vg V p γ) p (fun j hj _ => by unfold Vg; rw [if_pos hj]), foldfr, show p + (q - p) = q by omega] at h1
      rw [hx, key ops.size hq]
      exact h1
  refine wp_region_inv (fun d x wx => J1 d x wx ∨ J2 d x wx) hm he ?_ ?_ ?_
  · have hz : ∀ V', fr ops V' (fun _ => false) a ops.size = a := by
      intro V'
      have : ∀ k, fr ops V' (fun _ => false) a k = a := by
        intro k
        induction k with
        | zero => rfl
        | succ k ih => rw [fr, ih]; simp
      exact this _
    by_cases hk0 : q = 0
    · exact .inr (enter _ _ _ (fun _ => 0) (hz _).symm h0 (fun j _ hj => by omega) (fun _ j _ _ hj => by omega) (fun _ _ => rfl) (fun j hj => by omega))
    · exact .inl ⟨fun _ => 0, (hz _).symm, h0, (fun _ _ _ h => by cases h), (fun _ _ _ _ _ _ _ h => by cases h), (fun _ _ _ h => by cases h), (fun _ _ => rfl), 0, by omega, rfl⟩
  · rintro d x wx i (⟨γ, rfl, hI, hYd, hdis, hcl, hfz, j0, hj0, hdj0⟩ | ⟨m, hkm, hd, hw⟩) hi hmay
    · have hik : i < q := by
        rcases Nat.lt_or_ge i q with h | h
        · exact h
        · have := tailb d i h hi hmay j0 (by omega)
          rw [hdj0] at this; cases this
      obtain ⟨o, ho⟩ : ∃ o, ops[i]? = some o := ⟨ops[i], Array.getElem?_eq_getElem hi⟩
      have hdeps : ∀ e, e ∈ o.after → Region.binds .any e = true → d e.on = true := by
        intro e h1 h2
        have := hmay.2 o ho
        rw [Array.all_eq_true_iff_forall_mem] at this
        have := this e h1
        rw [h2] at this
        simpa using this
      have hput : ∀ (V' : Nat → Value) v, v = V' i → (fr ops V' d a ops.size).put o.dst v = fr ops V' (don d i) a ops.size := by
        rintro V' v rfl
        rw [fr_put V' a d i hmay.1 ops.size (fun j hj hne t ht => fun hjt => ?_), if_pos hi, ho]
        · rfl
        · obtain ⟨y, hy⟩ : ∃ y, ops[j]? = some y := ⟨ops[j], Array.getElem?_eq_getElem hj⟩
          rw [hy] at hjt
          rw [ho] at ht
          exact hne ((pair i j o y t ho hy hjt).1 ht).symm
      have hclo : ∀ j o', ops[j]? = some o' → don d i j = true → ∀ e, e ∈ o'.after → Region.binds .any e = true → don d i e.on = true := by
        intro j o' hj hdj e e1 e2
        have : d e.on = true := by
          by_cases hji : j = i
          · subst hji
            rw [ho] at hj
            cases hj
            exact hdeps e e1 e2
          · rw [don_other _ _ _ hji] at hdj
            exact hcl j o' hj hdj e e1 e2
        unfold don; split
        · rfl
        · exact this
      have hnext : ∀ (γ' : Nat → Nat) x w', x = fr ops (Vg V p γ') (don d i) a ops.size → S w' → (∀ j, p ≤ j → j < q → don d i j = true → Y (γ' j) w') → (∀ i' j, p ≤ i' → i' < q → p ≤ j → j < q → i' ≠ j → don d i i' = true → don d i j = true → γ' i' ≠ γ' j) → J1 (don d i) x w' ∨ J2 (don d i) x w' := by
        intro γ' x w' hx hS' hY' hd'
        have hf' : ∀ j, q ≤ j → don d i j = false := fun j hj => by rw [don_other _ _ _ (by omega)]; exact hfz j hj
        by_cases hall : ∀ j, j < q → don d i j = true
        · exact .inr (enter _ _ _ γ' hx hS' (fun j h1 h2 => hY' j h1 h2 (hall j h2)) (fun i' j h1 h2 h3 => hd' i' j h1 (by omega) (by omega) h3 (by omega) (hall i' (by omega)) (hall j h3)) hf' hall)
        · refine .inl ⟨γ', hx, hS', hY', hd', hclo, hf', ?_⟩
          rw [Classical.not_forall] at hall
          obtain ⟨j, hj⟩ := hall
          rw [Classical.not_imp] at hj
          exact ⟨j, hj.1, by simpa using hj.2⟩
      have hdon : ∀ j, j ≠ i → don d i j = true → d j = true := fun j hj h => by rwa [don_other _ _ _ hj] at h
      rcases Nat.lt_or_ge i p with hip | hip
      · have hsame : ∀ t, t ∈ o.looksAt ops → (fr ops (Vg V p γ) d a ops.size).tmps[t]? = (fr ops V tt a i).tmps[t]? := by
          intro t ht
          have := fr_get (ops := ops) (Vg V p γ) a d i t ops.size (fun j hj hjt => by
            obtain ⟨y, hy⟩ : ∃ y, ops[j]? = some y := ⟨ops[j], Array.getElem?_eq_getElem hj⟩
            rw [hy] at hjt
            rcases (pair i j o y t ho hy hjt).2 ht with ⟨h1, h2⟩ | ⟨h1, h2⟩
            · obtain ⟨e, e1, e2, e3⟩ := bindsOn_spec h2
              exact .inl ⟨h1, e3 ▸ hdeps e e1 e2⟩
            · refine .inr ⟨h1, ?_⟩
              cases hdj : d j with
              | false => rfl
              | true =>
                obtain ⟨e, e1, e2, e3⟩ := bindsOn_spec h2
                have := hcl j y hy hdj e e1 e2
                rw [e3, hmay.1] at this; cases this)
          rw [this, show min ops.size i = i by omega, fr_V a tt (Vg V p γ) V i (fun j hj _ => by unfold Vg; rw [if_pos (by omega)])]
        have hex : execOp (fr ops (Vg V p γ) d a ops.size).eval o = execOp (fr ops V tt a i).eval o := by
          refine execOp_congr o (fun cs b => nosel i o cs b ho) (fun x hx => ?_)
          cases x with
          | tmp t => exact eval_get (hsame t (mem_looks hx))
          | _ => rfl
        have hwa := wanted_get hsame
        have hYi : ∀ w', (∀ j, p ≤ j → j < q → d j = true → Y (γ j) w') → ∀ j, p ≤ j → j < q → don d i j = true → Y (γ j) w' := fun w' h j h1 h2 h3 => h j h1 h2 (hdon j (by omega) h3)
        have hdi : ∀ i' j, p ≤ i' → i' < q → p ≤ j → j < q → i' ≠ j → don d i i' = true → don d i j = true → γ i' ≠ γ j := fun i' j h1 h2 h3 h4 h5 h6 h7 => hdis i' j h1 h2 h3 h4 h5 (hdon i' (by omega) h6) (hdon j (by omega) h7)
        have hVi : V i = Vg V p γ i := by unfold Vg; rw [if_pos hip]
        unfold wpOp
        rw [ho]
        simp only
        rcases hst i o (by rw [List.getElem?_take, if_pos hip]; simpa using ho) with ⟨h1, h2⟩ | ⟨h1, h2⟩
        · rw [hwa, h1, if_pos rfl]
          refine .inl ?_
          unfold Oper.wp
          rw [hex]
          exact upv_upon (h2 _ wx hI (fun w' hb => hnext γ _ _ (hput _ _ hVi) (hS _ _ hI hb) (hYi w' (fun j h3 h4 h5 => hY _ _ _ (hYd j h3 h4 h5) hb)) hdi))
        · rw [hwa, h1]
          simp only [Bool.false_eq_true, if_false]
          exact hnext γ _ _ (hput _ _ (h2.symm.trans hVi)) hI (hYi wx hYd) hdi
      · obtain ⟨hg, hrun⟩ := hN i o hip hik ho
        unfold wpOp
        rw [ho]
        simp only
        rw [if_pos (show Region.wanted o (yielded ops (fr ops (Vg V p γ) d a ops.size).tmps) = true by simp [Region.wanted, hg])]
        refine .inl ?_
        unfold Oper.wp
        refine upv_upon (hrun _ _ wx hI (fun w' hb hYn => ?_))
        let γ' : Nat → Nat := fun j => if j = i then wx.heap.size else γ j
        have hγ : ∀ j, j ≠ i → γ' j = γ j := fun j hj => by simp only [γ']; rw [if_neg hj]
        have hγi : γ' i = wx.heap.size := by simp [γ']
        have hfr : fr ops (Vg V p γ) d a ops.size = fr ops (Vg V p γ') d a ops.size := fr_V a d _ _ _ (fun j _ hdj => by
          have hji : j ≠ i := by intro e; subst e; rw [hmay.1] at hdj; cases hdj
          unfold Vg; rw [hγ j hji])
        have hval : pv wx.heap.size = Vg V p γ' i := by unfold Vg; rw [if_neg (by omega), hγi]
        refine hnext γ' _ _ (by rw [hfr]; exact hput _ _ hval) (hS _ _ hI hb) (fun j h1 h2 h3 => ?_) (fun i' j h1 h2 h3 h4 h5 h6 h7 => ?_)
        · by_cases hj : j = i
          · subst hj; rw [hγi]; exact hYn
          · rw [hγ j hj]; exact hY _ _ _ (hYd j h1 h2 (hdon j hj h3)) hb
        · by_cases hj : j = i
          · subst hj
            rw [hγi, hγ i' h5]
            have := hYl _ _ (hYd i' h1 h2 (hdon i' h5 h6))
            omega
          · by_cases hi' : i' = i
            · subst hi'
              rw [hγi, hγ j hj]
              have := hYl _ _ (hYd j h3 h4 (hdon j hj h7))
              omega
            · rw [hγ i' hi', hγ j hj]; exact hdis i' j h1 h2 h3 h4 h5 (hdon i' hi' h6) (hdon j hj h7)
    · have him : i = m := by
        have h1 : ¬ i < m := by intro h; have := hmay.1; rw [hd, decide_eq_true h] at this; cases this
        have h2 : ¬ m < i := by
          intro h
          have := tailb d i (by omega) hi hmay m h
          rw [hd, decide_eq_false (by omega)] at this; cases this
        omega
      subst him
      have hdr : ops.toList.drop i = ops[i] :: ops.toList.drop (i + 1) := by
        rw [List.drop_eq_getElem_cons (by simpa using hi)]; simp
      rw [hdr] at hw
      have key : ∀ x' w', wpList P ops Q (ops.toList.drop (i + 1)) x' w' → J1 (don d i) x' w' ∨ J2 (don d i) x' w' := fun x' w' h => .inr ⟨i + 1, by omega, fun j => by
        by_cases hj : j = i
        · subst hj; rw [don_same, decide_eq_true (by omega)]
        · rw [don_other _ _ _ hj, hd, decide_eq_decide]; omega, h⟩
      refine wpOp_mono key ?_
      unfold wpOp
      rw [Array.getElem?_eq_getElem hi]
      exact hw
  · rintro d x wx (⟨_, _, _, _, _, _, _, j, hj, hdj⟩ | ⟨m, hkm, hd, hw⟩) hall
    · have := hall j (by omega)
      rw [hdj] at this; cases this
    · have : ops.size ≤ m := by
        rcases Nat.lt_or_ge m ops.size with h | h
        · have := hall m h
          rw [hd, decide_eq_false (by omega)] at this; cases this
        · exact h
      rw [List.drop_eq_nil_of_le (by simpa using this)] at hw
      exact hw
theorem go1 {S : World → Prop} {E : Act → Prop} {o : Oper} {r : List Oper} {a a' : Act} {v : Value} (hg : o.guard = none)
    (h : ∀ (K : Value → World → Prop) w, S w → (∀ w', Below w.heap.size w w' → K v w') → upv P K ((execOp a.eval o).run P w)) (he : a.put o.dst v = a')
    (hr : SeqB P ops S E r a') : SeqB P ops S E (o :: r) a :=
  ⟨v, .inl ⟨by simp [Region.wanted, hg], h⟩, he ▸ hr⟩
theorem go1g {S : World → Prop} {E : Act → Prop} {o : Oper} {r : List Oper} {a a' : Act} {v : Value} (hg : Region.wanted o (yielded ops a.tmps) = true)
    (h : ∀ (K : Value → World → Prop) w, S w → (∀ w', Below w.heap.size w w' → K v w') → upv P K ((execOp a.eval o).run P w)) (he : a.put o.dst v = a')
    (hr : SeqB P ops S E r a') : SeqB P ops S E (o :: r) a :=
  ⟨v, .inl ⟨hg, h⟩, he ▸ hr⟩
theorem go0 {S : World → Prop} {E : Act → Prop} {o : Oper} {r : List Oper} {a a' : Act} (hg : Region.wanted o (yielded ops a.tmps) = false) (he : a.put o.dst undef = a')
    (hr : SeqB P ops S E r a') : SeqB P ops S E (o :: r) a := ⟨undef, .inr ⟨hg, rfl⟩, he ▸ hr⟩
theorem go_end {S : World → Prop} {E : Act → Prop} {a : Act} (h : E a) : SeqB P ops S E [] a := h
theorem seqB_mono {S : World → Prop} {E E' : Act → Prop} (h : ∀ a, E a → E' a) : ∀ (l : List Oper) (a : Act), SeqB P ops S E l a → SeqB P ops S E' l a
  | [], _, hs => h _ hs
  | _ :: r, _, hs => by obtain ⟨v, h1, h2⟩ := hs; exact ⟨v, h1, seqB_mono h r _ h2⟩
/-- The law with one new block, s its slot. -/
theorem wp_region_new1 {id : Nat} {a : Act} {w : World} (S : World → Prop) (Y : Nat → World → Prop) (p s : Nat) (hS : ∀ w1 w2, S w1 → Below w1.heap.size w1 w2 → S w2) (hY : ∀ g w1 w2, Y g w1 → Below w1.heap.size w1 w2 → Y g w2) (hYl : ∀ g w, Y g w → g < w.heap.size)
    (hm : P.follows .mixedOrders = true) (hok : okOps ops = true) (hq : p + 1 ≤ ops.size) (ht : tailOk ops (p + 1) = true) (h0 : S w.drew) (hd : (ops[p]?).bind (·.dst) = some s)
    (hN : ∀ o, ops[p]? = some o → o.guard = none ∧ ∀ (ρ : Operand → Value) (K : Value → World → Prop) w, S w → (∀ w', Below w.heap.size w w' → Y w.heap.size w' → K (pv w.heap.size) w') → upv P K ((execOp ρ o).run P w))
    (hs : SeqB P ops S (fun a' => ∀ g w', S w' → Y g w' → wpList P ops Q (ops.toList.drop (p + 1)) (a'.put (some s) (.pointer (some ⟨g, 0, none⟩))) w') (ops.toList.take p) a) : (Code.region id ops true).wp P Q a w := by
  refine wp_region_new S Y p (p + 1) hS hY hYl hm hok (by omega) hq ht h0 (fun j o h1 h2 ho => ?_) (seqB_mono (fun a' h => ?_) _ _ hs)
  · have : j = p := by omega
    subst this; exact hN o ho
  · intro γ w' hSw hYw _ V hV
    have := h (γ p) w' hSw (hYw p (Nat.le_refl _) (by omega))
    rw [show p + 1 - p = 1 by omega]
    simp only [List.range_succ, List.range_zero, List.nil_append, List.foldl_cons, List.foldl_nil, Nat.add_zero]
    rw [hd, hV p (Nat.le_refl _)]
    exact this
/-- With two, s and t their slots. -/
theorem wp_region_new2 {id : Nat} {a : Act} {w : World} (S : World → Prop) (Y : Nat → World → Prop) (p s t : Nat) (hS : ∀ w1 w2, S w1 → Below w1.heap.size w1 w2 → S w2) (hY : ∀ g w1 w2, Y g w1 → Below w1.heap.size w1 w2 → Y g w2) (hYl : ∀ g w, Y g w → g < w.heap.size)
    (hm : P.follows .mixedOrders = true) (hok : okOps ops = true) (hq : p + 2 ≤ ops.size) (ht : tailOk ops (p + 2) = true) (h0 : S w.drew) (hd : (ops[p]?).bind (·.dst) = some s) (hd2 : (ops[p + 1]?).bind (·.dst) = some t)
    (hN : ∀ j o, j = p ∨ j = p + 1 → ops[j]? = some o → o.guard = none ∧ ∀ (ρ : Operand → Value) (K : Value → World → Prop) w, S w → (∀ w', Below w.heap.size w w' → Y w.heap.size w' → K (pv w.heap.size) w') → upv P K ((execOp ρ o).run P w))
    (hs : SeqB P ops S (fun a' => ∀ g h w', g ≠ h → S w' → Y g w' → Y h w' → wpList P ops Q (ops.toList.drop (p + 2)) ((a'.put (some s) (.pointer (some ⟨g, 0, none⟩))).put (some t) (.pointer (some ⟨h, 0, none⟩))) w') (ops.toList.take p) a) : (Code.region id ops true).wp P Q a w := by
  refine wp_region_new S Y p (p + 2) hS hY hYl hm hok (by omega) hq ht h0 (fun j o h1 h2 ho => hN j o (by omega) ho) (seqB_mono (fun a' h => ?_) _ _ hs)
  intro γ w' hSw hYw hdis V hV
  have := h (γ p) (γ (p + 1)) w' (hdis p (p + 1) (Nat.le_refl _) (by omega) (by omega)) hSw (hYw p (Nat.le_refl _) (by omega)) (hYw (p + 1) (by omega) (by omega))
  rw [show p + 2 - p = 2 by omega]
  simp only [List.range_succ, List.range_zero, List.nil_append, List.cons_append, List.foldl_cons, List.foldl_nil, Nat.add_zero]
  rw [hd, hd2, hV p (Nat.le_refl _), hV (p + 1) (by omega)]
  exact this
end RN
end Go.Proofs.Ytengpjalkiibiaa
/- A region that draws its order: some values stand fast whatever the order (class 0), some hang on when they come (class 1: new blocks), and the rest come behind all these, one behind the other (class 2). -/
namespace Go.Proofs.Ytengpjalkiibiaa
namespace RG
open RI RS RN Go.RowKit
variable {P : Program} {ops : Array Oper} {Q : Exit → Act → World → Prop}
def cls (ks : List Nat) (j : Nat) : Nat := ks.getD j 2
def updU (U : Nat → Value) (i : Nat) (v : Value) : Nat → Value := fun j => if j = i then v else U j
/-- A step of class 0. -/
def DStep (P : Program) (ops : Array Oper) (I : (Nat → Bool) → (Nat → Value) → World → Prop) (i : Nat) (o : Oper) (v : Value) (a : Act) : Prop :=
  (Region.wanted o (yielded ops a.tmps) = true ∧ ∀ (K : Value → World → Prop) d U w, I d U w → may ops d i → (∀ w', I (don d i) U w' → K v w') → upv P K ((execOp a.eval o).run P w)) ∨
  (Region.wanted o (yielded ops a.tmps) = false ∧ v = undef ∧ ∀ d U w, I d U w → may ops d i → I (don d i) U w)
/-- A step of class 1. -/
def NStep (P : Program) (ops : Array Oper) (I : (Nat → Bool) → (Nat → Value) → World → Prop) (j : Nat) (o : Oper) (a : Act) : Prop :=
  ∀ (K : Value → World → Prop) d U w, I d U w → may ops d j → (∀ v w', I (don d j) (updU U j v) w' → K v w') → upv P K ((execOp a.eval o).run P w)
/-- The walk in the text's order: class 0 by its value, class 1 by its fact. -/
def Walk (P : Program) (ops : Array Oper) (I : (Nat → Bool) → (Nat → Value) → World → Prop) (E : Act → Prop) : Nat → List Oper → List Nat → Act → Prop
  | j, o :: r, k :: ks, a =>
    if k = 0 then ∃ v, DStep P ops I j o v a ∧ Walk P ops I E (j + 1) r ks (a.put o.dst v)
    else if k = 1 then o.guard = none ∧ NStep P ops I j o a ∧ Walk P ops I E (j + 1) r ks a
    else Walk P ops I E (j + 1) r ks a
  | _, _, _, a => E a
def tl : List Oper → List Nat → List Oper
  | o :: r, k :: ks => if k = 2 then o :: tl r ks else tl r ks
  | _, _ => []
def putN (U : Nat → Value) : Nat → List Oper → List Nat → Act → Act
  | j, o :: r, k :: ks, a => if k = 1 then putN U (j + 1) r ks (a.put o.dst (U j)) else putN U (j + 1) r ks a
  | _, _, _, a => a
/-- What each operation is bound to, through others too, as bits. -/
def mask1 (ms : List Nat) (o : Oper) : Nat := o.after.toList.foldl (fun m e => if Region.binds .any e then m ||| (1 <<< e.on) ||| ms.getD e.on 0 else m) 0
def masks (ops : Array Oper) : Nat → List Nat
  | 0 => []
  | k + 1 => masks ops k ++ [((ops[k]?).map (mask1 (masks ops k))).getD 0]
def pairC (ops : Array Oper) (ks : List Nat) (i j : Nat) : Bool :=
  match ops[i]?, ops[j]? with
  | some x, some y =>
    match y.dst with
    | none => true
    | some t =>
      if cls ks i = 2 then true
      else if cls ks j = 2 then true
      else (x.dst != some t || i == j) && (if cls ks j = 1 then !(x.looksAt ops).contains t else (!(x.looksAt ops).contains t || (decide (j < i) && bindsOn x j) || (decide (i < j) && bindsOn y i)))
  | _, _ => true
def okC (ops : Array Oper) (ks : List Nat) : Bool :=
  RI.early ops && decide (ks.length = ops.size) && (List.range ops.size).all fun i =>
    (((ops[i]?).map fun o => !isSel o.op).getD true && decide (cls ks i ≤ 2)) && (List.range ops.size).all (fun j => pairC ops ks i j) &&
    (if cls ks i = 2 then (List.range ops.size).all fun j => (decide (cls ks j = 2) && decide (i ≤ j)) || ((masks ops ops.size).getD i 0).testBit j else true)
theorem masks_len (ops : Array Oper) : ∀ k, (masks ops k).length = k
  | 0 => rfl
  | k + 1 => by rw [masks, List.length_append, masks_len ops k]; rfl
theorem masks_get (ops : Array Oper) : ∀ n k, k < n → (masks ops n).getD k 0 = ((ops[k]?).map (mask1 (masks ops k))).getD 0
  | 0, k, h => absurd h (by omega)
  | n + 1, k, h => by
    rw [masks]
    by_cases e : k = n
    · subst e
      rw [List.getD_eq_getElem?_getD, List.getElem?_append_right (by rw [masks_len]; omega), masks_len]
      simp
    · rw [List.getD_eq_getElem?_getD, List.getElem?_append_left (by rw [masks_len]; omega), ← List.getD_eq_getElem?_getD]
      exact masks_get ops n k (by omega)
def Closed (ops : Array Oper) (d : Nat → Bool) : Prop := ∀ (j : Nat) (o : Oper), ops[j]? = some o → d j = true → ∀ e, e ∈ o.after → Region.binds .any e = true → d e.on = true
theorem mask1_bit (ms : List Nat) (o : Oper) (i : Nat) (h : (mask1 ms o).testBit i = true) : ∃ e, e ∈ o.after ∧ Region.binds .any e = true ∧ (e.on = i ∨ (ms.getD e.on 0).testBit i = true) := by
  unfold mask1 at h
  have key : ∀ (l : List Edge) (m : Nat), (l.foldl (fun m e => if Region.binds .any e then m ||| (1 <<< e.on) ||| ms.getD e.on 0 else m) m).testBit i = true → m.testBit i = true ∨ ∃ e, e ∈ l ∧ Region.binds .any e = true ∧ (e.on = i ∨ (ms.getD e.on 0).testBit i = true) := by
    intro l
    induction l with
    | nil => intro m h; exact .inl h
    | cons e r ih =>
      intro m h
      rw [List.foldl_cons] at h
      rcases ih _ h with h1 | ⟨e', h1, h2⟩
      · by_cases hb : Region.binds .any e = true
        · rw [if_pos hb, Nat.testBit_or, Nat.testBit_or, Bool.or_eq_true, Bool.or_eq_true] at h1
          rcases h1 with (h1 | h1) | h1
          · exact .inl h1
          · refine .inr ⟨e, List.mem_cons_self .., hb, .inl ?_⟩
            rw [Nat.one_shiftLeft, Nat.testBit_two_pow] at h1
            simpa using h1
          · exact .inr ⟨e, List.mem_cons_self .., hb, .inr h1⟩
        · rw [if_neg hb] at h1; exact .inl h1
      · exact .inr ⟨e', List.mem_cons_of_mem _ h1, h2⟩
  rcases key _ 0 h with h1 | ⟨e, h1, h2⟩
  · rw [Nat.zero_testBit] at h1; cases h1
  · exact ⟨e, by simpa using h1, h2⟩
theorem mask_done (he : RI.early ops = true) (d : Nat → Bool) (hcl : Closed ops d) : ∀ (n j : Nat), j < n → n ≤ ops.size → (∀ o, ops[j]? = some o → ∀ e, e ∈ o.after → Region.binds .any e = true → d e.on = true) → ∀ i, (((ops[j]?).map (mask1 (masks ops j))).getD 0).testBit i = true → d i = true
  | 0, j, h, _, _, _, _ => absurd h (by omega)
  | n + 1, j, hj, hn, hd, i, h => by
    have hjs : j < ops.size := by omega
    rw [Array.getElem?_eq_getElem hjs] at h
    simp only [Option.map_some, Option.getD_some] at h
    obtain ⟨e, h1, h2, h3⟩ := mask1_bit _ _ _ h
    have h4 := hd _ (Array.getElem?_eq_getElem hjs) e h1 h2
    rcases h3 with rfl | h3
    · exact h4
    · have hlt : e.on < j := by
        have h5 := List.all_eq_true.1 he j (List.mem_range.2 hjs)
        rw [Array.getElem?_eq_getElem hjs] at h5
        simp only [Option.map_some, Option.getD_some, Array.all_eq_true_iff_forall_mem] at h5
        have := h5 e h1
        rw [h2] at this
        simpa using this
      rw [masks_get ops j e.on hlt] at h3
      exact mask_done he d hcl n e.on (by omega) (by omega) (fun o ho => hcl e.on o ho h4) i h3
theorem fr_get2 (V : Nat → Value) (a : Act) (d c : Nat → Bool) (i t : Nat) : ∀ k, (∀ j, j < k → (ops[j]?).bind (·.dst) = some t → (j < i ∧ d j = true ∧ c j = true) ∨ (d j = false ∧ (c j = false ∨ i ≤ j))) → (fr ops V d a k).tmps[t]? = (fr ops V c a (min k i)).tmps[t]?
  | 0, _ => by simp [fr]
  | k + 1, h => by
    have ih := fr_get2 V a d c i t k (fun j hj => h j (by omega))
    have hk := h k (by omega)
    by_cases hi : k < i
    · rw [show min (k + 1) i = k + 1 by omega, fr, fr]
      rw [show min k i = k by omega] at ih
      by_cases e : (ops[k]?).bind (·.dst) = some t
      · rcases hk e with ⟨_, h2, h3⟩ | ⟨h1, h2 | h2⟩
        · rw [h2, h3]; simp only [if_true]; rw [put_get, put_get]; simp only [get_size ih, ih]
        · rw [h1, h2]; exact ih
        · omega
      · have q : ∀ (x : Act) (b : Bool), (if b then x.put ((ops[k]?).bind (·.dst)) (V k) else x).tmps[t]? = x.tmps[t]? := by
          intro x b; cases b
          · rfl
          · simp only [if_true]; rw [put_get, if_neg e]
        rw [q, q, ih]
    · rw [show min (k + 1) i = i by omega, fr]
      rw [show min k i = i by omega] at ih
      by_cases e : (ops[k]?).bind (·.dst) = some t
      · rcases hk e with ⟨h1, _⟩ | ⟨h2, _⟩
        · omega
        · rw [h2]; exact ih
      · cases d k
        · exact ih
        · simp only [if_true]; rw [put_get, if_neg e]; exact ih
theorem fr_put2 (V : Nat → Value) (a : Act) (d : Nat → Bool) (i : Nat) (hd : d i = false) : ∀ k, (∀ j, j < k → d j = true → ∀ t, (ops[i]?).bind (·.dst) = some t → (ops[j]?).bind (·.dst) ≠ some t) →
    fr ops V (don d i) a k = if i < k then (fr ops V d a k).put ((ops[i]?).bind (·.dst)) (V i) else fr ops V d a k
  | 0, _ => by simp [fr]
  | k + 1, h => by
    have ih := fr_put2 V a d i hd k (fun j hj => h j (by omega))
    rw [fr, fr]
    by_cases e : k = i
    · subst e
      rw [don_same, hd, ih, if_neg (show ¬ k < k by omega), if_pos (show k < k + 1 by omega)]
      simp
    · rw [don_other _ _ _ e, ih]
      by_cases h1 : i < k
      · rw [if_pos h1, if_pos (show i < k + 1 by omega)]
        cases hk : d k with
        | false => simp
        | true =>
          simp only [if_true]
          exact Act.put_comm _ _ _ (fun t ht => h k (by omega) hk t ht)
      · rw [if_neg h1, if_neg (show ¬ i < k + 1 by omega)]
def isD (ks : List Nat) (j : Nat) : Bool := cls ks j == 0
/-- What the walk gives. -/
theorem walk_vals {I : (Nat → Bool) → (Nat → Value) → World → Prop} {E : Act → Prop} (ks : List Nat) (a : Act) : ∀ (l : List Oper) (k : List Nat) (m : Nat) (V : Nat → Value), l.length = k.length → (∀ j o, l[j]? = some o → ops[m + j]? = some o) → (∀ j c, k[j]? = some c → cls ks (m + j) = c) → Walk P ops I E m l k (fr ops V (isD ks) a m) →
    ∃ V', (∀ j, j < m → V' j = V j) ∧ (∀ j o, l[j]? = some o → cls ks (m + j) = 0 → DStep P ops I (m + j) o (V' (m + j)) (fr ops V' (isD ks) a (m + j))) ∧ (∀ j o, l[j]? = some o → cls ks (m + j) = 1 → o.guard = none ∧ NStep P ops I (m + j) o (fr ops V' (isD ks) a (m + j))) ∧ E (fr ops V' (isD ks) a (m + l.length))
  | [], k, m, V, _, _, _, h => ⟨V, fun _ _ => rfl, fun j o hj => by simp at hj, fun j o hj => by simp at hj, by cases k <;> simpa [Walk] using h⟩
  | o :: r, [], m, V, hl, _, _, h => absurd hl (by simp)
  | o :: r, c :: k, m, V, hlen, hl, hc, h => by
    have hkm : ops[m]? = some o := by simpa using hl 0 o rfl
    have hcm : cls ks m = c := by simpa using hc 0 c rfl
    have frV : ∀ V1 V2 : Nat → Value, ∀ n, (∀ j, j < n → V1 j = V2 j) → fr ops V1 (isD ks) a n = fr ops V2 (isD ks) a n := fun V1 V2 n hv => fr_V a (isD ks) V1 V2 n (fun j hj _ => hv j hj)
    have hl' : ∀ j o', r[j]? = some o' → ops[m + 1 + j]? = some o' := fun j o' hj => by have := hl (j + 1) o' (by simpa using hj); rwa [show m + (j + 1) = m + 1 + j by omega] at this
    have hc' : ∀ j c', k[j]? = some c' → cls ks (m + 1 + j) = c' := fun j c' hj => by have := hc (j + 1) c' (by simpa using hj); rwa [show m + (j + 1) = m + 1 + j by omega] at this
    unfold Walk at h
    by_cases h0 : c = 0
    · rw [if_pos h0] at h
      obtain ⟨v, h1, h2⟩ := h
      let W : Nat → Value := fun j => if j = m then v else V j
      have hW : fr ops W (isD ks) a (m + 1) = (fr ops V (isD ks) a m).put o.dst v := by
        rw [fr, frV W V m (fun j hj => by simp only [W]; rw [if_neg (by omega)])]
        simp [isD, hcm, h0, hkm, W]
      rw [← hW] at h2
      obtain ⟨V', e1, e2, e3, e4⟩ := walk_vals ks a r k (m + 1) W (by simpa using hlen) hl' hc' h2
      have eV : fr ops V' (isD ks) a m = fr ops V (isD ks) a m := frV V' V m (fun j hj => by rw [e1 j (by omega)]; simp only [W]; rw [if_neg (by omega)])
      refine ⟨V', fun j hj => ?_, fun j o' hj hcj => ?_, fun j o' hj hcj => ?_, ?_⟩
      · rw [e1 j (by omega)]; simp only [W]; rw [if_neg (by omega)]
      · cases j with
        | zero =>
          have : o' = o := by simpa using hj.symm
          subst this
          rw [Nat.add_zero, e1 m (by omega), eV]
          simpa [W] using h1
        | succ j => rw [show m + (j + 1) = m + 1 + j by omega] at hcj ⊢; exact e2 j o' (by simpa using hj) hcj
      · cases j with
        | zero => rw [Nat.add_zero, hcm, h0] at hcj; exact absurd hcj (by decide)
        | succ j => rw [show m + (j + 1) = m + 1 + j by omega] at hcj ⊢; exact e3 j o' (by simpa using hj) hcj
      · rw [show m + (o :: r).length = m + 1 + r.length by simp; omega]; exact e4
    · rw [if_neg h0] at h
      have hskip : fr ops V (isD ks) a (m + 1) = fr ops V (isD ks) a m := by
        rw [fr]; simp [isD, hcm, h0]
      by_cases h1 : c = 1
      · rw [if_pos h1] at h
        obtain ⟨hg, hn, h2⟩ := h
        rw [← hskip] at h2
        obtain ⟨V', e1, e2, e3, e4⟩ := walk_vals ks a r k (m + 1) V (by simpa using hlen) hl' hc' h2
        have eV : fr ops V' (isD ks) a m = fr ops V (isD ks) a m := frV V' V m (fun j hj => e1 j (by omega))
        refine ⟨V', fun j hj => e1 j (by omega), fun j o' hj hcj => ?_, fun j o' hj hcj => ?_, ?_⟩
        · cases j with
          | zero => rw [Nat.add_zero, hcm] at hcj; exact absurd hcj h0
          | succ j => rw [show m + (j + 1) = m + 1 + j by omega] at hcj ⊢; exact e2 j o' (by simpa using hj) hcj
        · cases j with
          | zero =>
            have : o' = o := by simpa using hj.symm
            subst this
            rw [Nat.add_zero, eV]
            exact ⟨hg, hn⟩
          | succ j => rw [show m + (j + 1) = m + 1 + j by omega] at hcj ⊢; exact e3 j o' (by simpa using hj) hcj
        · rw [show m + (o :: r).length = m + 1 + r.length by simp; omega]; exact e4
      · rw [if_neg h1] at h
        rw [← hskip] at h
        obtain ⟨V', e1, e2, e3, e4⟩ := walk_vals ks a r k (m + 1) V (by simpa using hlen) hl' hc' h
        refine ⟨V', fun j hj => e1 j (by omega), fun j o' hj hcj => ?_, fun j o' hj hcj => ?_, ?_⟩
        · cases j with
          | zero => rw [Nat.add_zero, hcm] at hcj; exact absurd hcj h0
          | succ j => rw [show m + (j + 1) = m + 1 + j by omega] at hcj ⊢; exact e2 j o' (by simpa using hj) hcj
        · cases j with
          | zero => rw [Nat.add_zero, hcm] at hcj; exact absurd hcj h1
          | succ j => rw [show m + (j + 1) = m + 1 + j by omega] at hcj ⊢; exact e3 j o' (by simpa using hj) hcj
        · rw [show m + (o :: r).length = m + 1 + r.length by simp; omega]; exact e4
/-- The value of each that is not of class 2. -/
def VU (ks : List Nat) (V U : Nat → Value) (j : Nat) : Value := if cls ks j = 1 then U j else V j
def isDN (ks : List Nat) (j : Nat) : Bool := cls ks j == 0 || cls ks j == 1
theorem tl_skip : ∀ (l : List Oper) (ks : List Nat) (m n : Nat), m ≤ n → (∀ j, m ≤ j → j < n → ks.getD j 2 ≠ 2) → n ≤ ks.length → l.length = ks.length → tl (l.drop m) (ks.drop m) = tl (l.drop n) (ks.drop n) := by
  intro l ks m n hmn h hn hl
  induction n with
  | zero => have : m = 0 := by omega
            subst this; rfl
  | succ n ih =>
    by_cases e : m = n + 1
    · subst e; rfl
    · rw [ih (by omega) (fun j h1 h2 => h j h1 (by omega)) (by omega)]
      have hk : n < ks.length := by omega
      have hl' : n < l.length := by omega
      rw [List.drop_eq_getElem_cons hl', List.drop_eq_getElem_cons hk, tl, if_neg]
      have := h n (by omega) (by omega)
      rwa [List.getD_eq_getElem?_getD, List.getElem?_eq_getElem hk] at this
theorem tl_here (l : List Oper) (ks : List Nat) (n : Nat) (hl : n < l.length) (hk : n < ks.length) (h : ks.getD n 2 = 2) : tl (l.drop n) (ks.drop n) = l[n] :: tl (l.drop (n + 1)) (ks.drop (n + 1)) := by
  rw [List.drop_eq_getElem_cons hl, List.drop_eq_getElem_cons hk, tl, if_pos]
  rwa [List.getD_eq_getElem?_getD, List.getElem?_eq_getElem hk] at h
theorem wp_region_genI {id : Nat} {a : Act} {w : World} (I : (Nat → Bool) → (Nat → Value) → World → Prop) (ks : List Nat)
    (hm : P.follows .mixedOrders = true) (hok : okC ops ks = true) (h0 : I (fun _ => false) (fun _ => undef) w.drew)
    (hs : Walk P ops I (fun a' => ∀ d (U : Nat → Value) w', I d U w' → (∀ j, j < ops.size → d j = decide (cls ks j ≠ 2)) → wpList P ops Q (tl ops.toList ks) (putN U 0 ops.toList ks a') w') 0 ops.toList ks a) : (Code.region id ops true).wp P Q a w := by
  have hok' := hok
  unfold okC at hok'
  rw [Bool.and_eq_true, Bool.and_eq_true] at hok'
  obtain ⟨⟨he, hlen0⟩, hp⟩ := hok'
  have hlen : ks.length = ops.size := by simpa using hlen0
  have hcget : ∀ j c, ks[j]? = some c → cls ks j = c := fun j c h => by unfold cls; rw [List.getD_eq_getElem?_getD, h]; rfl
  have hgetc : ∀ j c, j < ops.size → cls ks j = c → ks[j]? = some c := fun j c hj h => by
    unfold cls at h
    rw [List.getD_eq_getElem?_getD, List.getElem?_eq_getElem (by omega)] at h
    rw [List.getElem?_eq_getElem (by omega)]
    simpa using h
  obtain ⟨V, _, hstD, hstN, hE⟩ := walk_vals (P := P) (ops := ops) ks a ops.toList ks 0 (fun _ => undef) (by simp [hlen]) (fun j o hj => by simpa using hj) (fun j c hj => by rw [Nat.zero_add]; exact hcget j c hj) hs
  simp only [Nat.zero_add] at hstD hstN hE
  rw [show ops.toList.length = ops.size by simp] at hE
  have hrow : ∀ i, i < ops.size → ((ops[i]?).map fun o => !isSel o.op).getD true = true ∧ (∀ j, j < ops.size → pairC ops ks i j = true) ∧ (cls ks i = 2 → ∀ j, j < ops.size → (cls ks j = 2 ∧ i ≤ j) ∨ ((masks ops ops.size).getD i 0).testBit j = true) := by
    intro i hi
    have h1 := List.all_eq_true.1 hp i (List.mem_range.2 hi)
    rw [Bool.and_eq_true, Bool.and_eq_true, Bool.and_eq_true] at h1
    refine ⟨h1.1.1.1, fun j hj => List.all_eq_true.1 h1.1.2 j (List.mem_range.2 hj), fun hc j hj => ?_⟩
    have h2 := h1.2
    rw [if_pos hc] at h2
    have h3 := List.all_eq_true.1 h2 j (List.mem_range.2 hj)
    rw [Bool.or_eq_true, Bool.and_eq_true, decide_eq_true_eq, decide_eq_true_eq] at h3
    exact h3
  have hthree : ∀ i, i < ops.size → cls ks i ≤ 2 := by
    intro i hi
    have h1 := List.all_eq_true.1 hp i (List.mem_range.2 hi)
    rw [Bool.and_eq_true, Bool.and_eq_true, Bool.and_eq_true] at h1
    simpa using h1.1.1.2
  have pair : ∀ (i j : Nat) (x y : Oper) (t : Nat), ops[i]? = some x → ops[j]? = some y → cls ks i ≠ 2 → cls ks j ≠ 2 → y.dst = some t → (x.dst = some t → i = j) ∧ (t ∈ x.looksAt ops → cls ks j ≠ 1 ∧ ((j < i ∧ bindsOn x j = true) ∨ (i < j ∧ bindsOn y i = true))) := by
    intro i j x y t hx hy hci hcj ht
    have hi : i < ops.size := (Array.getElem?_eq_some_iff.1 hx).1
    have hj : j < ops.size := (Array.getElem?_eq_some_iff.1 hy).1
    have h2 := (hrow i hi).2.1 j hj
    unfold pairC at h2
    simp only [hx, hy, ht, if_neg hci, if_neg hcj] at h2
    rw [Bool.and_eq_true] at h2
    refine ⟨fun e => ?_, fun hm => ?_⟩
    · have := h2.1
      rw [e] at this
      simpa using this
    · have h3 := h2.2
      by_cases hc1 : cls ks j = 1
      · rw [if_pos hc1] at h3
        simp at h3
        exact absurd hm h3
      · rw [if_neg hc1] at h3
        simp at h3
        refine ⟨hc1, ?_⟩
        rcases h3 with (h | h) | h
        · exact absurd hm h
        · exact .inl h
        · exact .inr h
  have nosel : ∀ (i : Nat) (x : Oper) cs b, ops[i]? = some x → x.op ≠ .select cs b := by
    intro i x cs b hx hc
    have hi : i < ops.size := (Array.getElem?_eq_some_iff.1 hx).1
    have h1 := (hrow i hi).1
    rw [hx] at h1
    simp [hc, isSel] at h1
  have deps : ∀ (d : Nat → Bool) (i : Nat) (o : Oper), may ops d i → ops[i]? = some o → ∀ e, e ∈ o.after → Region.binds .any e = true → d e.on = true := by
    intro d i o hmay ho e h1 h2
    have := hmay.2 o ho
    rw [Array.all_eq_true_iff_forall_mem] at this
    have := this e h1
    rw [h2] at this
    simpa using this
  have tailb : ∀ (d : Nat → Bool) (i : Nat), Closed ops d → cls ks i = 2 → i < ops.size → may ops d i → ∀ j, j < ops.size → (cls ks j ≠ 2 ∨ j < i) → d j = true := by
    intro d i hcl hc hi hmay j hj hor
    rcases (hrow i hi).2.2 hc j hj with ⟨h1, h2⟩ | h
    · rcases hor with h3 | h3
      · exact absurd h1 h3
      · omega
    · rw [masks_get ops ops.size i hi] at h
      exact mask_done he d hcl ops.size i hi (Nat.le_refl _) (fun o ho => deps d i o hmay ho) j h
  let J1 : (Nat → Bool) → Act → World → Prop := fun d x wx => ∃ U : Nat → Value, x = fr ops (VU ks V U) d a ops.size ∧ I d U wx ∧ Closed ops d ∧ (∀ j, cls ks j = 2 → d j = false) ∧ ∃ j, j < ops.size ∧ cls ks j ≠ 2 ∧ d j = false
  let J2 : (Nat → Bool) → Act → World → Prop := fun d x wx => ∃ m, m ≤ ops.size ∧ Closed ops d ∧ (∀ j, j < ops.size → d j = (decide (cls ks j ≠ 2) || decide (j < m))) ∧ wpList P ops Q (tl (ops.toList.drop m) (ks.drop m)) x wx
  have putfr : ∀ (U : Nat → Value) (m : Nat), m ≤ ops.size → putN U m (ops.toList.drop m) (ks.drop m) (fr ops (VU ks V U) (fun j => isD ks j || (cls ks j == 1 && decide (j < m))) a ops.size) = fr ops (VU ks V U) (isDN ks) a ops.size := by
    intro U m hm
    obtain ⟨k, hk⟩ : ∃ k, m + k = ops.size := ⟨ops.size - m, by omega⟩
    induction k generalizing m with
    | zero =>
      have : m = ops.size := by omega
      subst this
      rw [List.drop_eq_nil_of_le (by simp), putN.eq_def]
      simp only
      exact fr_congr _ a _ _ ops.size (fun j hj => by unfold isD isDN; rw [decide_eq_true hj, Bool.and_true])
    | succ k ih =>
      have hml : m < ops.size := by omega
      have hl' : m < ops.toList.length := by simpa using hml
      have hk' : m < ks.length := by omega
      rw [List.drop_eq_getElem_cons hl', List.drop_eq_getElem_cons hk', putN]
      have hcm : cls ks m = ks[m] := by unfold cls; rw [List.getD_eq_getElem?_getD, List.getElem?_eq_getElem hk']; rfl
      have hom : ops[m]? = some ops.toList[m] := by rw [Array.getElem?_eq_getElem hml]; simp
      by_cases h1 : ks[m] = 1
      · rw [if_pos h1]
        have hd0 : (isD ks m || (cls ks m == 1 && decide (m < m))) = false := by
          simp [isD, hcm, h1]
        have e1 : (fun j => isD ks j || (cls ks j == 1 && decide (j < m + 1))) = don (fun j => isD ks j || (cls ks j == 1 && decide (j < m))) m := by
          funext j
          by_cases hj : j = m
          · subst hj; rw [don_same]; simp [hcm, h1]
          · rw [don_other _ _ _ hj]
            rw [show decide (j < m + 1) = decide (j < m) by rw [decide_eq_decide]; omega]
        have e2 := fr_put2 (ops := ops) (VU ks V U) a (fun j => isD ks j || (cls ks j == 1 && decide (j < m))) m hd0 ops.size (fun j hj hdj t ht hjt => by
          obtain ⟨y, hy⟩ : ∃ y, ops[j]? = some y := ⟨ops[j], Array.getElem?_eq_getElem hj⟩
          rw [hy] at hjt
          rw [hom] at ht
          have hcj : cls ks j ≠ 2 := by
            intro h2
            rw [show ((isD ks j || (cls ks j == 1 && decide (j < m))) = false) by simp [isD, h2]] at hdj
            cases hdj
          have := (pair m j _ y t hom hy (by rw [hcm, h1]; decide) hcj hjt).1 ht
          subst this
          rw [hd0] at hdj; cases hdj)
        rw [if_pos hml] at e2
        have hV : VU ks V U m = U m := by unfold VU; rw [if_pos (by rw [hcm, h1])]
        rw [← ih (m + 1) (by omega) (by omega), e1, e2, hV, hom]
        rfl
      · rw [if_neg h1, ← ih (m + 1) (by omega) (by omega)]
        congr 1
        refine fr_congr _ a _ _ ops.size (fun j _ => ?_)
        by_cases hj : j = m
        · subst hj
          have : (cls ks j == 1) = false := by rw [hcm]; simpa using h1
          rw [this, Bool.false_and, Bool.false_and]
        · rw [show decide (j < m + 1) = decide (j < m) by rw [decide_eq_decide]; omega]
  have enter : ∀ d x wx (U : Nat → Value), x = fr ops (VU ks V U) d a ops.size → I d U wx → Closed ops d → (∀ j, cls ks j = 2 → d j = false) → (∀ j, j < ops.size → cls ks j ≠ 2 → d j = true) → J2 d x wx := by
    intro d x wx U hx hIw hcl hf htr
    have hdd : ∀ j, j < ops.size → d j = decide (cls ks j ≠ 2) := fun j hj => by
      by_cases hc : cls ks j = 2
      · rw [hf j hc, hc]; simp
      · rw [htr j hj hc]; simp [hc]
    refine ⟨0, Nat.zero_le _, hcl, fun j hj => ?_, ?_⟩
    · by_cases hc : cls ks j = 2
      · rw [hf j hc, hc]; simp
      · rw [htr j hj hc]; simp [hc]
    · have h1 := hE d U wx hIw hdd
      have h2 := putfr U 0 (Nat.zero_le _)
      rw [List.drop_zero, List.drop_zero] at h2 ⊢
      have h3 : fr ops V (isD ks) a ops.size = fr ops (VU ks V U) (fun j => isD ks j || (cls ks j == 1 && decide (j < 0))) a ops.size := by
        rw [fr_congr (VU ks V U) a _ (isD ks) ops.size (fun j _ => by simp)]
        refine fr_V a (isD ks) V (VU ks V U) ops.size (fun j _ hd => ?_)
        unfold VU
        rw [if_neg]
        intro h
        unfold isD at hd
        rw [h] at hd
        cases hd
      rw [h3, h2] at h1
      rw [hx, fr_congr (VU ks V U) a d (isDN ks) ops.size (fun j hj => ?_)]
      · exact h1
      · by_cases hc : cls ks j = 2
        · rw [hf j hc]; simp [isDN, hc]
        · rw [htr j hj hc]
          unfold isDN
          have h3c := hthree j hj
          by_cases h0c : cls ks j = 0
          · simp [h0c]
          · by_cases h1c : cls ks j = 1
            · simp [h1c]
            · omega
  refine wp_region_inv (fun d x wx => J1 d x wx ∨ J2 d x wx) hm he ?_ ?_ ?_
  · have hz : ∀ V', fr ops V' (fun _ => false) a ops.size = a := by
      intro V'
      have : ∀ k, fr ops V' (fun _ => false) a k = a := by
        intro k
        induction k with
        | zero => rfl
        | succ k ih => rw [fr, ih]; simp
      exact this _
    have hcl0 : Closed ops (fun _ => false) := fun _ _ _ h => by cases h
    by_cases hall : ∀ j, j < ops.size → cls ks j = 2
    · exact .inr (enter _ _ _ (fun _ => undef) (hz _).symm h0 hcl0 (fun _ _ => rfl) (fun j hj h => absurd (hall j hj) h))
    · rw [Classical.not_forall] at hall
      obtain ⟨j, hj⟩ := hall
      rw [Classical.not_imp] at hj
      exact .inl ⟨fun _ => undef, (hz _).symm, h0, hcl0, (fun _ _ => rfl), j, hj.1, hj.2, rfl⟩
  · rintro d x wx i (⟨U, rfl, hI, hcl, hfz, j0, hj0, hcj0, hdj0⟩ | ⟨m, hm', hcl, hd, hw⟩) hi hmay
    · have hci : cls ks i ≠ 2 := by
        intro h
        have := tailb d i hcl h hi hmay j0 hj0 (.inl hcj0)
        rw [hdj0] at this; cases this
      obtain ⟨o, ho⟩ : ∃ o, ops[i]? = some o := ⟨ops[i], Array.getElem?_eq_getElem hi⟩
      have hdeps := deps d i o hmay ho
      have hput : ∀ (V' : Nat → Value) v, v = V' i → (fr ops V' d a ops.size).put o.dst v = fr ops V' (don d i) a ops.size := by
        rintro V' v rfl
        rw [fr_put2 V' a d i hmay.1 ops.size (fun j hj hdj t ht => fun hjt => ?_), if_pos hi, ho]
        · rfl
        · obtain ⟨y, hy⟩ : ∃ y, ops[j]? = some y := ⟨ops[j], Array.getElem?_eq_getElem hj⟩
          rw [hy] at hjt
          rw [ho] at ht
          have hcj : cls ks j ≠ 2 := by intro h; rw [hfz j h] at hdj; cases hdj
          have := (pair i j o y t ho hy hci hcj hjt).1 ht
          subst this
          rw [hmay.1] at hdj; cases hdj
      have hclo : Closed ops (don d i) := by
        intro j o' hj hdj e e1 e2
        have : d e.on = true := by
          by_cases hji : j = i
          · subst hji
            rw [ho] at hj
            cases hj
            exact hdeps e e1 e2
          · rw [don_other _ _ _ hji] at hdj
            exact hcl j o' hj hdj e e1 e2
        unfold don; split
        · rfl
        · exact this
      have hnext : ∀ (U' : Nat → Value) x w', x = fr ops (VU ks V U') (don d i) a ops.size → I (don d i) U' w' → J1 (don d i) x w' ∨ J2 (don d i) x w' := by
        intro U' x w' hx hI'
        have hf' : ∀ j, cls ks j = 2 → don d i j = false := fun j hj => by
          have hji : j ≠ i := by intro e; subst e; exact hci hj
          rw [don_other _ _ _ hji]; exact hfz j hj
        by_cases hall : ∀ j, j < ops.size → cls ks j ≠ 2 → don d i j = true
        · exact .inr (enter _ _ _ U' hx hI' hclo hf' hall)
        · refine .inl ⟨U', hx, hI', hclo, hf', ?_⟩
          rw [Classical.not_forall] at hall
          obtain ⟨j, hj⟩ := hall
          rw [Classical.not_imp, Classical.not_imp] at hj
          exact ⟨j, hj.1, hj.2.1, by simpa using hj.2.2⟩
      have hsame : ∀ t, t ∈ o.looksAt ops → (fr ops (VU ks V U) d a ops.size).tmps[t]? = (fr ops V (isD ks) a i).tmps[t]? := by
        intro t ht
        have := fr_get2 (ops := ops) (VU ks V U) a d (isD ks) i t ops.size (fun j hj hjt => by
          obtain ⟨y, hy⟩ : ∃ y, ops[j]? = some y := ⟨ops[j], Array.getElem?_eq_getElem hj⟩
          rw [hy] at hjt
          by_cases hc2 : cls ks j = 2
          · exact .inr ⟨hfz j hc2, .inl (by simp [isD, hc2])⟩
          · obtain ⟨hc1, hb⟩ := (pair i j o y t ho hy hci hc2 hjt).2 ht
            have hc0 : cls ks j = 0 := by have := hthree j hj; omega
            rcases hb with ⟨h1, h2⟩ | ⟨h1, h2⟩
            · obtain ⟨e, e1, e2, e3⟩ := bindsOn_spec h2
              exact .inl ⟨h1, e3 ▸ hdeps e e1 e2, by simp [isD, hc0]⟩
            · refine .inr ⟨?_, .inr (by omega)⟩
              cases hdj : d j with
              | false => rfl
              | true =>
                obtain ⟨e, e1, e2, e3⟩ := bindsOn_spec h2
                have := hcl j y hy hdj e e1 e2
                rw [e3, hmay.1] at this; cases this)
        rw [this, show min ops.size i = i by omega, fr_V a (isD ks) (VU ks V U) V i (fun j hj hdj => by
          unfold VU
          rw [if_neg]
          intro h
          unfold isD at hdj
          rw [h] at hdj
          cases hdj)]
      have hex : execOp (fr ops (VU ks V U) d a ops.size).eval o = execOp (fr ops V (isD ks) a i).eval o := by
        refine execOp_congr o (fun cs b => nosel i o cs b ho) (fun x hx => ?_)
        cases x with
        | tmp t => exact eval_get (hsame t (mem_looks hx))
        | _ => rfl
      have hwa := wanted_get hsame
      by_cases hc0 : cls ks i = 0
      · have hVi : V i = VU ks V U i := by unfold VU; rw [if_neg (by omega)]
        unfold wpOp
        rw [ho]
        simp only
        rcases hstD i o (by simpa using ho) hc0 with ⟨h1, h2⟩ | ⟨h1, h2, h3⟩
        · rw [hwa, h1, if_pos rfl]
          refine .inl ?_
          unfold Oper.wp
          rw [hex]
          exact upv_upon (h2 _ d U wx hI hmay (fun w' hI' => hnext U _ _ (hput _ _ hVi) hI'))
        · rw [hwa, h1]
          simp only [Bool.false_eq_true, if_false]
          exact hnext U _ _ (hput _ _ (h2.symm.trans hVi)) (h3 d U wx hI hmay)
      · have hc1 : cls ks i = 1 := by have := hthree i hi; omega
        obtain ⟨hg, hrun⟩ := hstN i o (by simpa using ho) hc1
        unfold wpOp
        rw [ho]
        simp only
        rw [if_pos (show Region.wanted o (yielded ops (fr ops (VU ks V U) d a ops.size).tmps) = true by simp [Region.wanted, hg])]
        refine .inl ?_
        unfold Oper.wp
        rw [hex]
        refine upv_upon (hrun _ d U wx hI hmay (fun v w' hI' => ?_))
        have hU : ∀ j, j ≠ i → updU U i v j = U j := fun j hj => by unfold updU; rw [if_neg hj]
        have hUi : updU U i v i = v := by simp [updU]
        have hfr : fr ops (VU ks V U) d a ops.size = fr ops (VU ks V (updU U i v)) d a ops.size := fr_V a d _ _ _ (fun j _ hdj => by
          have hji : j ≠ i := by intro e; subst e; rw [hmay.1] at hdj; cases hdj
          unfold VU; rw [hU j hji])
        have hval : v = VU ks V (updU U i v) i := by unfold VU; rw [if_pos hc1, hUi]
        exact hnext (updU U i v) _ _ (by rw [hfr]; exact hput _ _ hval) hI'
    · have hci : cls ks i = 2 := by
        have h1 := hd i hi
        rw [hmay.1] at h1
        by_cases hc : cls ks i = 2
        · exact hc
        · simp [hc] at h1
      have him : ¬ i < m := by
        intro h
        have h1 := hd i hi
        rw [hmay.1, decide_eq_true h] at h1
        simp at h1
      have hbefore := tailb d i hcl hci hi hmay
      have hnone : ∀ j, m ≤ j → j < i → ks.getD j 2 ≠ 2 := by
        intro j h1 h2 h3
        have h4 := hbefore j (by omega) (.inr h2)
        rw [hd j (by omega)] at h4
        have : cls ks j = 2 := h3
        rw [this, decide_eq_false (show ¬ j < m by omega)] at h4
        simp at h4
      have hlo : ops.toList.length = ks.length := by simp [hlen]
      rw [tl_skip ops.toList ks m i (by omega) hnone (by omega) hlo, tl_here ops.toList ks i (by simpa using hi) (by omega) hci] at hw
      have hcloD : Closed ops (don d i) := by
        obtain ⟨o, ho⟩ : ∃ o, ops[i]? = some o := ⟨ops[i], Array.getElem?_eq_getElem hi⟩
        intro j o' hj hdj e e1 e2
        have : d e.on = true := by
          by_cases hji : j = i
          · subst hji; exact deps d j o' hmay hj e e1 e2
          · rw [don_other _ _ _ hji] at hdj
            exact hcl j o' hj hdj e e1 e2
        unfold don; split
        · rfl
        · exact this
      have key : ∀ x' w', wpList P ops Q (tl (ops.toList.drop (i + 1)) (ks.drop (i + 1))) x' w' → J1 (don d i) x' w' ∨ J2 (don d i) x' w' := fun x' w' h => .inr ⟨i + 1, by omega, hcloD, fun j hj => by
        by_cases hji : j = i
        · subst hji; rw [don_same]; simp
        · rw [don_other _ _ _ hji, hd j hj]
          by_cases hc : cls ks j = 2
          · have e : decide (j < m) = decide (j < i + 1) := by
              rw [decide_eq_decide]
              constructor
              · intro _; omega
              · intro h1
                rcases Nat.lt_or_ge j m with h2 | h2
                · exact h2
                · exact absurd hc (hnone j h2 (by omega))
            rw [e]
          · simp [hc], h⟩
      refine wpOp_mono key ?_
      unfold wpOp
      rw [Array.getElem?_eq_getElem hi]
      rw [show ops.toList[i] = ops[i] by simp] at hw
      exact hw
  · rintro d x wx (⟨_, _, _, _, _, j, hj, _, hdj⟩ | ⟨m, hm', hcl, hd, hw⟩) hall
    · have := hall j hj
      rw [hdj] at this; cases this
    · have hlo : ops.toList.length = ks.length := by simp [hlen]
      rw [tl_skip ops.toList ks m ops.size hm' (fun j h1 h2 h3 => by
        have h4 := hall j h2
        rw [hd j h2] at h4
        have : cls ks j = 2 := h3
        rw [this, decide_eq_false (show ¬ j < m by omega)] at h4
        simp at h4) (by omega) hlo, List.drop_eq_nil_of_le (by simp)] at hw
      unfold tl at hw
      exact hw
/-- S throughout; of each of class 1 that is done, Y; of each two, X. -/
def SYX (S : World → Prop) (Y : Nat → Value → World → Prop) (X : Value → Value → Prop) (ks : List Nat) (d : Nat → Bool) (U : Nat → Value) (w : World) : Prop :=
  S w ∧ (∀ j, ks[j]? = some 1 → d j = true → Y j (U j) w) ∧ (∀ i j, ks[i]? = some 1 → ks[j]? = some 1 → i ≠ j → d i = true → d j = true → X (U i) (U j))
structure Lasts (S : World → Prop) (Y : Nat → Value → World → Prop) : Prop where
  s : ∀ w1 w2, S w1 → Below w1.heap.size w1 w2 → S w2
  y : ∀ j v w1 w2, Y j v w1 → Below w1.heap.size w1 w2 → Y j v w2
theorem syx_on {S : World → Prop} {Y : Nat → Value → World → Prop} {X : Value → Value → Prop} {ks : List Nat} {d : Nat → Bool} {U : Nat → Value} {i : Nat} {w w' : World} (hL : Lasts S Y) (hi : ks[i]? ≠ some 1) (h : SYX S Y X ks d U w) (hb : Below w.heap.size w w') : SYX S Y X ks (don d i) U w' := by
  have hd : ∀ j, ks[j]? = some 1 → don d i j = true → d j = true := fun j hj h => by
    have hji : j ≠ i := by intro e; subst e; exact hi hj
    rwa [don_other _ _ _ hji] at h
  exact ⟨hL.s _ _ h.1 hb, fun j h1 h2 => hL.y _ _ _ _ (h.2.1 j h1 (hd j h1 h2)) hb, fun k j h1 h2 h3 h4 h5 => h.2.2 k j h1 h2 h3 (hd k h1 h4) (hd j h2 h5)⟩
section
variable {S : World → Prop} {Y : Nat → Value → World → Prop} {X : Value → Value → Prop} {E : Act → Prop} {j : Nat} {o : Oper} {r : List Oper} {k ks : List Nat} {a a' : Act} {v : Value}
theorem go1 (hL : Lasts S Y) (hj : ks[j]? ≠ some 1) (hg : o.guard = none)
    (h : ∀ (K : Value → World → Prop) w, S w → (∀ w', Below w.heap.size w w' → K v w') → upv P K ((execOp a.eval o).run P w)) (he : a.put o.dst v = a')
    (hr : Walk P ops (SYX S Y X ks) E (j + 1) r k a') : Walk P ops (SYX S Y X ks) E j (o :: r) (0 :: k) a := by
  unfold Walk
  rw [if_pos rfl]
  exact ⟨v, .inl ⟨by simp [Region.wanted, hg], fun K d U w hI _ hK => h K w hI.1 (fun w' hb => hK w' (syx_on hL hj hI hb))⟩, he ▸ hr⟩
theorem go1g (hL : Lasts S Y) (hj : ks[j]? ≠ some 1) (hg : Region.wanted o (yielded ops a.tmps) = true)
    (h : ∀ (K : Value → World → Prop) w, S w → (∀ w', Below w.heap.size w w' → K v w') → upv P K ((execOp a.eval o).run P w)) (he : a.put o.dst v = a')
    (hr : Walk P ops (SYX S Y X ks) E (j + 1) r k a') : Walk P ops (SYX S Y X ks) E j (o :: r) (0 :: k) a := by
  unfold Walk
  rw [if_pos rfl]
  exact ⟨v, .inl ⟨hg, fun K d U w hI _ hK => h K w hI.1 (fun w' hb => hK w' (syx_on hL hj hI hb))⟩, he ▸ hr⟩
theorem go0 (hL : Lasts S Y) (hj : ks[j]? ≠ some 1) (hg : Region.wanted o (yielded ops a.tmps) = false) (he : a.put o.dst undef = a')
    (hr : Walk P ops (SYX S Y X ks) E (j + 1) r k a') : Walk P ops (SYX S Y X ks) E j (o :: r) (0 :: k) a := by
  unfold Walk
  rw [if_pos rfl]
  exact ⟨undef, .inr ⟨hg, rfl, fun d U w hI _ => syx_on hL hj hI (Below.refl _ _)⟩, he ▸ hr⟩
theorem goN (hL : Lasts S Y) (hg : o.guard = none)
    (h : ∀ (K : Value → World → Prop) w, S w → (∀ v w', Below w.heap.size w w' → Y j v w' → (∀ i u, Y i u w → X u v ∧ X v u) → K v w') → upv P K ((execOp a.eval o).run P w))
    (hr : Walk P ops (SYX S Y X ks) E (j + 1) r k a) : Walk P ops (SYX S Y X ks) E j (o :: r) (1 :: k) a := by
  unfold Walk
  rw [if_neg (by decide), if_pos rfl]
  refine ⟨hg, fun K d U w hI hmay hK => h K w hI.1 (fun v w' hb hYn hXn => hK v w' ?_), hr⟩
  have hU : ∀ i, i ≠ j → updU U j v i = U i := fun i hi => by unfold updU; rw [if_neg hi]
  have hUj : updU U j v j = v := by simp [updU]
  have hdon : ∀ i, i ≠ j → don d j i = true → d i = true := fun i hi h => by rwa [don_other _ _ _ hi] at h
  refine ⟨hL.s _ _ hI.1 hb, fun i h1 h2 => ?_, fun i l h1 h2 h3 h4 h5 => ?_⟩
  · by_cases hi : i = j
    · subst hi; rw [hUj]; exact hYn
    · rw [hU i hi]; exact hL.y _ _ _ _ (hI.2.1 i h1 (hdon i hi h2)) hb
  · by_cases hl : l = j
    · subst hl
      rw [hUj, hU i h3]
      exact (hXn i _ (hI.2.1 i h1 (hdon i h3 h4))).1
    · by_cases hi : i = j
      · subst hi
        rw [hUj, hU l hl]
        exact (hXn l _ (hI.2.1 l h2 (hdon l hl h5))).2
      · rw [hU i hi, hU l hl]; exact hI.2.2 i l h1 h2 h3 (hdon i hi h4) (hdon l hl h5)
end
theorem goT {I : (Nat → Bool) → (Nat → Value) → World → Prop} {E : Act → Prop} {j : Nat} {o : Oper} {r : List Oper} {k : List Nat} {a : Act}
    (hr : Walk P ops I E (j + 1) r k a) : Walk P ops I E j (o :: r) (2 :: k) a := by
  unfold Walk
  rw [if_neg (by decide), if_neg (by decide)]
  exact hr
theorem go_end {I : (Nat → Bool) → (Nat → Value) → World → Prop} {E : Act → Prop} {j : Nat} {a : Act} (h : E a) : Walk P ops I E j [] [] a := by
  unfold Walk; exact h
theorem walk_mono {I : (Nat → Bool) → (Nat → Value) → World → Prop} {E E' : Act → Prop} (h : ∀ a, E a → E' a) : ∀ (l : List Oper) (k : List Nat) (j : Nat) (a : Act), Walk P ops I E j l k a → Walk P ops I E' j l k a
  | [], [], _, _, hs => by unfold Walk at *; exact h _ hs
  | [], _ :: _, _, _, hs => by unfold Walk at *; exact h _ hs
  | _ :: _, [], _, _, hs => by unfold Walk at *; exact h _ hs
  | o :: r, c :: k, j, a, hs => by
    unfold Walk at *
    by_cases h0 : c = 0
    · rw [if_pos h0] at *
      obtain ⟨v, h1, h2⟩ := hs
      exact ⟨v, h1, walk_mono h r k _ _ h2⟩
    · rw [if_neg h0] at *
      by_cases h1 : c = 1
      · rw [if_pos h1] at *
        exact ⟨hs.1, hs.2.1, walk_mono h r k _ _ hs.2.2⟩
      · rw [if_neg h1] at *
        exact walk_mono h r k _ _ hs
theorem wp_region_gen {id : Nat} {a : Act} {w : World} (S : World → Prop) (Y : Nat → Value → World → Prop) (X : Value → Value → Prop) (ks : List Nat)
    (hm : P.follows .mixedOrders = true) (hok : okC ops ks = true) (h0 : S w.drew)
    (hs : Walk P ops (SYX S Y X ks) (fun a' => ∀ (U : Nat → Value) w', S w' → (∀ j, ks[j]? = some 1 → Y j (U j) w') → (∀ i j, ks[i]? = some 1 → ks[j]? = some 1 → i ≠ j → X (U i) (U j)) → wpList P ops Q (tl ops.toList ks) (putN U 0 ops.toList ks a') w') 0 ops.toList ks a) : (Code.region id ops true).wp P Q a w := by
  have hlen : ks.length = ops.size := by
    have h := hok
    unfold okC at h
    rw [Bool.and_eq_true, Bool.and_eq_true] at h
    simpa using h.1.2
  refine wp_region_genI (SYX S Y X ks) ks hm hok ⟨h0, (fun _ _ h => by cases h), (fun _ _ _ _ _ h => by cases h)⟩ (walk_mono (fun a' h d U w' hI hd => ?_) _ _ _ _ hs)
  have hdone : ∀ j, ks[j]? = some 1 → d j = true := fun j hj => by
    have hjl : j < ops.size := by have := (List.getElem?_eq_some_iff.1 hj).1; omega
    rw [hd j hjl]
    have : cls ks j = 1 := by unfold cls; rw [List.getD_eq_getElem?_getD, hj]; rfl
    rw [this]; rfl
  exact h U w' hI.1 (fun j hj => hI.2.1 j hj (hdone j hj)) (fun i j hi hj hne => hI.2.2 i j hi hj hne (hdone i hi) (hdone j hj))
end RG
end Go.Proofs.Ytengpjalkiibiaa
/- The same, where those of class 1 may look at others of class 1 that they are bound to. A region that draws its order: some values stand fast whatever the order (class 0), some hang on when they come (class 1: new blocks), and the rest come behind all these, one behind the other (class 2). -/
namespace Go.Proofs.Ytengpjalkiibiaa
namespace RH
open RI RS RN Go.RowKit
variable {P : Program} {ops : Array Oper} {Q : Exit → Act → World → Prop}
def cls (ks : List Nat) (j : Nat) : Nat := ks.getD j 2
def updU (U : Nat → Value) (i : Nat) (v : Value) : Nat → Value := fun j => if j = i then v else U j
/-- A step of class 0. -/
def DStep (P : Program) (ops : Array Oper) (I : (Nat → Bool) → (Nat → Value) → World → Prop) (i : Nat) (o : Oper) (v : Value) (U : Nat → Value) (a : Act) : Prop :=
  (Region.wanted o (yielded ops a.tmps) = true ∧ ∀ (K : Value → World → Prop) d w, I d U w → may ops d i → (∀ w', I (don d i) U w' → K v w') → upv P K ((execOp a.eval o).run P w)) ∨
  (Region.wanted o (yielded ops a.tmps) = false ∧ v = undef ∧ ∀ d w, I d U w → may ops d i → I (don d i) U w)
/-- A step of class 1. -/
def NStep (P : Program) (ops : Array Oper) (I : (Nat → Bool) → (Nat → Value) → World → Prop) (j : Nat) (o : Oper) (U : Nat → Value) (a : Act) : Prop :=
  ∀ (K : Value → World → Prop) d w, I d U w → may ops d j → (∀ v w', I (don d j) (updU U j v) w' → K v w') → upv P K ((execOp a.eval o).run P w)
/-- The walk in the text's order: class 0 by its value, class 1 by its fact. -/
def Walk (P : Program) (ops : Array Oper) (I : (Nat → Bool) → (Nat → Value) → World → Prop) (E : ((Nat → Value) → Act) → Prop) : Nat → List Oper → List Nat → ((Nat → Value) → Act) → Prop
  | j, o :: r, k :: ks, f =>
    if k = 0 then ∃ v, (∀ U, DStep P ops I j o v U (f U)) ∧ Walk P ops I E (j + 1) r ks (fun U => (f U).put o.dst v)
    else if k = 1 then o.guard = none ∧ (∀ U, NStep P ops I j o U (f U)) ∧ Walk P ops I E (j + 1) r ks (fun U => (f U).put o.dst (U j))
    else Walk P ops I E (j + 1) r ks f
  | _, _, _, f => E f
def tl : List Oper → List Nat → List Oper
  | o :: r, k :: ks => if k = 2 then o :: tl r ks else tl r ks
  | _, _ => []
/-- What each operation is bound to, through others too, as bits. -/
def mask1 (ms : List Nat) (o : Oper) : Nat := o.after.toList.foldl (fun m e => if Region.binds .any e then m ||| (1 <<< e.on) ||| ms.getD e.on 0 else m) 0
def masks (ops : Array Oper) : Nat → List Nat
  | 0 => []
  | k + 1 => masks ops k ++ [((ops[k]?).map (mask1 (masks ops k))).getD 0]
def pairC (ops : Array Oper) (ks : List Nat) (i j : Nat) : Bool :=
  match ops[i]?, ops[j]? with
  | some x, some y =>
    match y.dst with
    | none => true
    | some t =>
      if cls ks i = 2 then true
      else if cls ks j = 2 then true
      else (x.dst != some t || i == j) && (if cls ks j = 1 ∧ cls ks i = 0 then !(x.looksAt ops).contains t else (!(x.looksAt ops).contains t || (decide (j < i) && bindsOn x j) || (decide (i < j) && bindsOn y i)))
  | _, _ => true
def okC (ops : Array Oper) (ks : List Nat) : Bool :=
  RI.early ops && decide (ks.length = ops.size) && (List.range ops.size).all fun i =>
    (((ops[i]?).map fun o => !isSel o.op).getD true && decide (cls ks i ≤ 2)) && (List.range ops.size).all (fun j => pairC ops ks i j) &&
    (if cls ks i = 2 then (List.range ops.size).all fun j => (decide (cls ks j = 2) && decide (i ≤ j)) || ((masks ops ops.size).getD i 0).testBit j else true)
theorem masks_len (ops : Array Oper) : ∀ k, (masks ops k).length = k
  | 0 => rfl
  | k + 1 => by rw [masks, List.length_append, masks_len ops k]; rfl
theorem masks_get (ops : Array Oper) : ∀ n k, k < n → (masks ops n).getD k 0 = ((ops[k]?).map (mask1 (masks ops k))).getD 0
  | 0, k, h => absurd h (by omega)
  | n + 1, k, h => by
    rw [masks]
    by_cases e : k = n
    · subst e
      rw [List.getD_eq_getElem?_getD, List.getElem?_append_right (by rw [masks_len]; omega), masks_len]
      simp
    · rw [List.getD_eq_getElem?_getD, List.getElem?_append_left (by rw [masks_len]; omega), ← List.getD_eq_getElem?_getD]
      exact masks_get ops n k (by omega)
def Closed (ops : Array Oper) (d : Nat → Bool) : Prop := ∀ (j : Nat) (o : Oper), ops[j]? = some o → d j = true → ∀ e, e ∈ o.after → Region.binds .any e = true → d e.on = true
theorem mask1_bit (ms : List Nat) (o : Oper) (i : Nat) (h : (mask1 ms o).testBit i = true) : ∃ e, e ∈ o.after ∧ Region.binds .any e = true ∧ (e.on = i ∨ (ms.getD e.on 0).testBit i = true) := by
  unfold mask1 at h
  have key : ∀ (l : List Edge) (m : Nat), (l.foldl (fun m e => if Region.binds .any e then m ||| (1 <<< e.on) ||| ms.getD e.on 0 else m) m).testBit i = true → m.testBit i = true ∨ ∃ e, e ∈ l ∧ Region.binds .any e = true ∧ (e.on = i ∨ (ms.getD e.on 0).testBit i = true) := by
    intro l
    induction l with
    | nil => intro m h; exact .inl h
    | cons e r ih =>
      intro m h
      rw [List.foldl_cons] at h
      rcases ih _ h with h1 | ⟨e', h1, h2⟩
      · by_cases hb : Region.binds .any e = true
        · rw [if_pos hb, Nat.testBit_or, Nat.testBit_or, Bool.or_eq_true, Bool.or_eq_true] at h1
          rcases h1 with (h1 | h1) | h1
          · exact .inl h1
          · refine .inr ⟨e, List.mem_cons_self .., hb, .inl ?_⟩
            rw [Nat.one_shiftLeft, Nat.testBit_two_pow] at h1
            simpa using h1
          · exact .inr ⟨e, List.mem_cons_self .., hb, .inr h1⟩
        · rw [if_neg hb] at h1; exact .inl h1
      · exact .inr ⟨e', List.mem_cons_of_mem _ h1, h2⟩
  rcases key _ 0 h with h1 | ⟨e, h1, h2⟩
  · rw [Nat.zero_testBit] at h1; cases h1
  · exact ⟨e, by simpa using h1, h2⟩
theorem mask_done (he : RI.early ops = true) (d : Nat → Bool) (hcl : Closed ops d) : ∀ (n j : Nat), j < n → n ≤ ops.size → (∀ o, ops[j]? = some o → ∀ e, e ∈ o.after → Region.binds .any e = true → d e.on = true) → ∀ i, (((ops[j]?).map (mask1 (masks ops j))).getD 0).testBit i = true → d i = true
  | 0, j, h, _, _, _, _ => absurd h (by omega)
  | n + 1, j, hj, hn, hd, i, h => by
    have hjs : j < ops.size := by omega
    rw [Array.getElem?_eq_getElem hjs] at h
    simp only [Option.map_some, Option.getD_some] at h
    obtain ⟨e, h1, h2, h3⟩ := mask1_bit _ _ _ h
    have h4 := hd _ (Array.getElem?_eq_getElem hjs) e h1 h2
    rcases h3 with rfl | h3
    · exact h4
    · have hlt : e.on < j := by
        have h5 := List.all_eq_true.1 he j (List.mem_range.2 hjs)
        rw [Array.getElem?_eq_getElem hjs] at h5
        simp only [Option.map_some, Option.getD_some, Array.all_eq_true_iff_forall_mem] at h5
        have := h5 e h1
        rw [h2] at this
        simpa using this
      rw [masks_get ops j e.on hlt] at h3
      exact mask_done he d hcl n e.on (by omega) (by omega) (fun o ho => hcl e.on o ho h4) i h3
theorem fr_get2 (V : Nat → Value) (a : Act) (d c : Nat → Bool) (i t : Nat) : ∀ k, (∀ j, j < k → (ops[j]?).bind (·.dst) = some t → (j < i ∧ d j = true ∧ c j = true) ∨ (d j = false ∧ (c j = false ∨ i ≤ j))) → (fr ops V d a k).tmps[t]? = (fr ops V c a (min k i)).tmps[t]?
  | 0, _ => by simp [fr]
  | k + 1, h => by
    have ih := fr_get2 V a d c i t k (fun j hj => h j (by omega))
    have hk := h k (by omega)
    by_cases hi : k < i
    · rw [show min (k + 1) i = k + 1 by omega, fr, fr]
      rw [show min k i = k by omega] at ih
      by_cases e : (ops[k]?).bind (·.dst) = some t
      · rcases hk e with ⟨_, h2, h3⟩ | ⟨h1, h2 | h2⟩
        · rw [h2, h3]; simp only [if_true]; rw [put_get, put_get]; simp only [get_size ih, ih]
        · rw [h1, h2]; exact ih
        · omega
      · have q : ∀ (x : Act) (b : Bool), (if b then x.put ((ops[k]?).bind (·.dst)) (V k) else x).tmps[t]? = x.tmps[t]? := by
          intro x b; cases b
          · rfl
          · simp only [if_true]; rw [put_get, if_neg e]
        rw [q, q, ih]
    · rw [show min (k + 1) i = i by omega, fr]
      rw [show min k i = i by omega] at ih
      by_cases e : (ops[k]?).bind (·.dst) = some t
      · rcases hk e with ⟨h1, _⟩ | ⟨h2, _⟩
        · omega
        · rw [h2]; exact ih
      · cases d k
        · exact ih
        · simp only [if_true]; rw [put_get, if_neg e]; exact ih
theorem fr_put2 (V : Nat → Value) (a : Act) (d : Nat → Bool) (i : Nat) (hd : d i = false) : ∀ k, (∀ j, j < k → d j = true → ∀ t, (ops[i]?).bind (·.dst) = some t → (ops[j]?).bind (·.dst) ≠ some t) →
    fr ops V (don d i) a k = if i < k then (fr ops V d a k).put ((ops[i]?).bind (·.dst)) (V i) else fr ops V d a k
  | 0, _ => by simp [fr]
  | k + 1, h => by
    have ih := fr_put2 V a d i hd k (fun j hj => h j (by omega))
    rw [fr, fr]
    by_cases e : k = i
    · subst e
      rw [don_same, hd, ih, if_neg (show ¬ k < k by omega), if_pos (show k < k + 1 by omega)]
      simp
    · rw [don_other _ _ _ e, ih]
      by_cases h1 : i < k
      · rw [if_pos h1, if_pos (show i < k + 1 by omega)]
        cases hk : d k with
        | false => simp
        | true =>
          simp only [if_true]
          exact Act.put_comm _ _ _ (fun t ht => h k (by omega) hk t ht)
      · rw [if_neg h1, if_neg (show ¬ i < k + 1 by omega)]
def isDN (ks : List Nat) (j : Nat) : Bool := cls ks j == 0 || cls ks j == 1
/-- The value of each that is not of class 2. -/
def VU (ks : List Nat) (V U : Nat → Value) (j : Nat) : Value := if cls ks j = 1 then U j else V j
theorem walk_vals {I : (Nat → Bool) → (Nat → Value) → World → Prop} {E : ((Nat → Value) → Act) → Prop} (ks : List Nat) (a : Act) : ∀ (l : List Oper) (k : List Nat) (m : Nat) (V : Nat → Value), l.length = k.length → (∀ j o, l[j]? = some o → ops[m + j]? = some o) → (∀ j c, k[j]? = some c → cls ks (m + j) = c) → (∀ j, j < k.length → cls ks (m + j) ≤ 2) → Walk P ops I E m l k (fun U => fr ops (VU ks V U) (isDN ks) a m) →
    ∃ V', (∀ j, j < m → V' j = V j) ∧ (∀ j o U, l[j]? = some o → cls ks (m + j) = 0 → DStep P ops I (m + j) o (V' (m + j)) U (fr ops (VU ks V' U) (isDN ks) a (m + j))) ∧ (∀ j o U, l[j]? = some o → cls ks (m + j) = 1 → o.guard = none ∧ NStep P ops I (m + j) o U (fr ops (VU ks V' U) (isDN ks) a (m + j))) ∧ E (fun U => fr ops (VU ks V' U) (isDN ks) a (m + l.length))
  | [], k, m, V, _, _, _, _, h => ⟨V, fun _ _ => rfl, fun j o _ hj => by simp at hj, fun j o _ hj => by simp at hj, by cases k <;> simpa [Walk] using h⟩
  | o :: r, [], m, V, hl, _, _, _, h => absurd hl (by simp)
  | o :: r, c :: k, m, V, hlen, hl, hc, h3, h => by
    have hkm : ops[m]? = some o := by simpa using hl 0 o rfl
    have hcm : cls ks m = c := by simpa using hc 0 c rfl
    have frV : ∀ (V1 V2 U : Nat → Value) (n : Nat), (∀ j, j < n → V1 j = V2 j) → fr ops (VU ks V1 U) (isDN ks) a n = fr ops (VU ks V2 U) (isDN ks) a n := fun V1 V2 U n hv => fr_V a (isDN ks) _ _ n (fun j hj _ => by unfold VU; rw [hv j hj])
    have hl' : ∀ j o', r[j]? = some o' → ops[m + 1 + j]? = some o' := fun j o' hj => by have := hl (j + 1) o' (by simpa using hj); rwa [show m + (j + 1) = m + 1 + j by omega] at this
    have hc' : ∀ j c', k[j]? = some c' → cls ks (m + 1 + j) = c' := fun j c' hj => by have := hc (j + 1) c' (by simpa using hj); rwa [show m + (j + 1) = m + 1 + j by omega] at this
    have h3' : ∀ j, j < k.length → cls ks (m + 1 + j) ≤ 2 := fun j hj => by have := h3 (j + 1) (by simpa using hj); rwa [show m + (j + 1) = m + 1 + j by omega] at this
    unfold Walk at h
    by_cases h0 : c = 0
    · rw [if_pos h0] at h
      obtain ⟨v, h1, h2⟩ := h
      let W : Nat → Value := fun j => if j = m then v else V j
      have hW : (fun U => fr ops (VU ks W U) (isDN ks) a (m + 1)) = fun U => (fr ops (VU ks V U) (isDN ks) a m).put o.dst v := by
        funext U
        rw [fr, frV W V U m (fun j hj => by simp only [W]; rw [if_neg (by omega)])]
        simp [isDN, hcm, h0, hkm, W, VU]
      rw [← hW] at h2
      obtain ⟨V', e1, e2, e3, e4⟩ := walk_vals ks a r k (m + 1) W (by simpa using hlen) hl' hc' h3' h2
      have eV : ∀ U, fr ops (VU ks V' U) (isDN ks) a m = fr ops (VU ks V U) (isDN ks) a m := fun U => frV V' V U m (fun j hj => by rw [e1 j (by omega)]; simp only [W]; rw [if_neg (by omega)])
      refine ⟨V', fun j hj => ?_, fun j o' U hj hcj => ?_, fun j o' U hj hcj => ?_, ?_⟩
      · rw [e1 j (by omega)]; simp only [W]; rw [if_neg (by omega)]
      · cases j with
        | zero =>
          have : o' = o := by simpa using hj.symm
          subst this
          rw [Nat.add_zero, e1 m (by omega), eV]
          simpa [W] using h1 U
        | succ j => rw [show m + (j + 1) = m + 1 + j by omega] at hcj ⊢; exact e2 j o' U (by simpa using hj) hcj
      · cases j with
        | zero => rw [Nat.add_zero, hcm, h0] at hcj; exact absurd hcj (by decide)
        | succ j => rw [show m + (j + 1) = m + 1 + j by omega] at hcj ⊢; exact e3 j o' U (by simpa using hj) hcj
      · rw [show m + (o :: r).length = m + 1 + r.length by simp; omega]; exact e4
    · rw [if_neg h0] at h
      by_cases h1 : c = 1
      · rw [if_pos h1] at h
        obtain ⟨hg, hn, h2⟩ := h
        have hW : (fun U => fr ops (VU ks V U) (isDN ks) a (m + 1)) = fun U => (fr ops (VU ks V U) (isDN ks) a m).put o.dst (U m) := by
          funext U
          rw [fr]
          simp [isDN, hcm, h1, hkm, VU]
        rw [← hW] at h2
        obtain ⟨V', e1, e2, e3, e4⟩ := walk_vals ks a r k (m + 1) V (by simpa using hlen) hl' hc' h3' h2
        have eV : ∀ U, fr ops (VU ks V' U) (isDN ks) a m = fr ops (VU ks V U) (isDN ks) a m := fun U => frV V' V U m (fun j hj => e1 j (by omega))
        refine ⟨V', fun j hj => e1 j (by omega), fun j o' U hj hcj => ?_, fun j o' U hj hcj => ?_, ?_⟩
        · cases j with
          | zero => rw [Nat.add_zero, hcm] at hcj; exact absurd hcj h0
          | succ j => rw [show m + (j + 1) = m + 1 + j by omega] at hcj ⊢; exact e2 j o' U (by simpa using hj) hcj
        · cases j with
          | zero =>
            have : o' = o := by simpa using hj.symm
            subst this
            rw [Nat.add_zero, eV]
            exact ⟨hg, hn U⟩
          | succ j => rw [show m + (j + 1) = m + 1 + j by omega] at hcj ⊢; exact e3 j o' U (by simpa using hj) hcj
        · rw [show m + (o :: r).length = m + 1 + r.length by simp; omega]; exact e4
      · rw [if_neg h1] at h
        have hskip : (fun U => fr ops (VU ks V U) (isDN ks) a (m + 1)) = fun U => fr ops (VU ks V U) (isDN ks) a m := by
          funext U
          rw [fr]; simp [isDN, hcm, h0, h1]
        rw [← hskip] at h
        obtain ⟨V', e1, e2, e3, e4⟩ := walk_vals ks a r k (m + 1) V (by simpa using hlen) hl' hc' h3' h
        refine ⟨V', fun j hj => e1 j (by omega), fun j o' U hj hcj => ?_, fun j o' U hj hcj => ?_, ?_⟩
        · cases j with
          | zero => rw [Nat.add_zero, hcm] at hcj; exact absurd hcj h0
          | succ j => rw [show m + (j + 1) = m + 1 + j by omega] at hcj ⊢; exact e2 j o' U (by simpa using hj) hcj
        · cases j with
          | zero => rw [Nat.add_zero, hcm] at hcj; exact absurd hcj h1
          | succ j => rw [show m + (j + 1) = m + 1 + j by omega] at hcj ⊢; exact e3 j o' U (by simpa using hj) hcj
        · rw [show m + (o :: r).length = m + 1 + r.length by simp; omega]; exact e4
theorem tl_skip : ∀ (l : List Oper) (ks : List Nat) (m n : Nat), m ≤ n → (∀ j, m ≤ j → j < n → ks.getD j 2 ≠ 2) → n ≤ ks.length → l.length = ks.length → tl (l.drop m) (ks.drop m) = tl (l.drop n) (ks.drop n) := by
  intro l ks m n hmn h hn hl
  induction n with
  | zero => have : m = 0 := by omega
            subst this; rfl
  | succ n ih =>
    by_cases e : m = n + 1
    · subst e; rfl
    · rw [ih (by omega) (fun j h1 h2 => h j h1 (by omega)) (by omega)]
      have hk : n < ks.length := by omega
      have hl' : n < l.length := by omega
      rw [List.drop_eq_getElem_cons hl', List.drop_eq_getElem_cons hk, tl, if_neg]
      have := h n (by omega) (by omega)
      rwa [List.getD_eq_getElem?_getD, List.getElem?_eq_getElem hk] at this
theorem tl_here (l : List Oper) (ks : List Nat) (n : Nat) (hl : n < l.length) (hk : n < ks.length) (h : ks.getD n 2 = 2) : tl (l.drop n) (ks.drop n) = l[n] :: tl (l.drop (n + 1)) (ks.drop (n + 1)) := by
  rw [List.drop_eq_getElem_cons hl, List.drop_eq_getElem_cons hk, tl, if_pos]
  rwa [List.getD_eq_getElem?_getD, List.getElem?_eq_getElem hk] at h
theorem wp_region_genI {id : Nat} {a : Act} {w : World} (I : (Nat → Bool) → (Nat → Value) → World → Prop) (ks : List Nat)
    (hm : P.follows .mixedOrders = true) (hok : okC ops ks = true) (h0 : I (fun _ => false) (fun _ => undef) w.drew)
    (hs : Walk P ops I (fun f => ∀ d (U : Nat → Value) w', I d U w' → (∀ j, j < ops.size → d j = decide (cls ks j ≠ 2)) → wpList P ops Q (tl ops.toList ks) (f U) w') 0 ops.toList ks (fun _ => a)) : (Code.region id ops true).wp P Q a w := by
  have hok' := hok
  unfold okC at hok'
  rw [Bool.and_eq_true, Bool.and_eq_true] at hok'
  obtain ⟨⟨he, hlen0⟩, hp⟩ := hok'
  have hlen : ks.length = ops.size := by simpa using hlen0
  have hcget : ∀ j c, ks[j]? = some c → cls ks j = c := fun j c h => by unfold cls; rw [List.getD_eq_getElem?_getD, h]; rfl
  have hgetc : ∀ j c, j < ops.size → cls ks j = c → ks[j]? = some c := fun j c hj h => by
    unfold cls at h
    rw [List.getD_eq_getElem?_getD, List.getElem?_eq_getElem (by omega)] at h
    rw [List.getElem?_eq_getElem (by omega)]
    simpa using h
  have hrow : ∀ i, i < ops.size → ((ops[i]?).map fun o => !isSel o.op).getD true = true ∧ (∀ j, j < ops.size → pairC ops ks i j = true) ∧ (cls ks i = 2 → ∀ j, j < ops.size → (cls ks j = 2 ∧ i ≤ j) ∨ ((masks ops ops.size).getD i 0).testBit j = true) := by
    intro i hi
    have h1 := List.all_eq_true.1 hp i (List.mem_range.2 hi)
    rw [Bool.and_eq_true, Bool.and_eq_true, Bool.and_eq_true] at h1
    refine ⟨h1.1.1.1, fun j hj => List.all_eq_true.1 h1.1.2 j (List.mem_range.2 hj), fun hc j hj => ?_⟩
    have h2 := h1.2
    rw [if_pos hc] at h2
    have h3 := List.all_eq_true.1 h2 j (List.mem_range.2 hj)
    rw [Bool.or_eq_true, Bool.and_eq_true, decide_eq_true_eq, decide_eq_true_eq] at h3
    exact h3
  have hthree : ∀ i, i < ops.size → cls ks i ≤ 2 := by
    intro i hi
    have h1 := List.all_eq_true.1 hp i (List.mem_range.2 hi)
    rw [Bool.and_eq_true, Bool.and_eq_true, Bool.and_eq_true] at h1
    simpa using h1.1.1.2
  obtain ⟨V, _, hstD, hstN, hE⟩ := walk_vals (P := P) (ops := ops) ks a ops.toList ks 0 (fun _ => undef) (by simp [hlen]) (fun j o hj => by simpa using hj) (fun j c hj => by rw [Nat.zero_add]; exact hcget j c hj) (fun j hj => by rw [Nat.zero_add]; exact hthree j (by omega)) hs
  simp only [Nat.zero_add] at hstD hstN hE
  rw [show ops.toList.length = ops.size by simp] at hE
  have pair : ∀ (i j : Nat) (x y : Oper) (t : Nat), ops[i]? = some x → ops[j]? = some y → cls ks i ≠ 2 → cls ks j ≠ 2 → y.dst = some t → (x.dst = some t → i = j) ∧ (t ∈ x.looksAt ops → (j < i ∧ bindsOn x j = true) ∨ (i < j ∧ bindsOn y i = true)) := by
    intro i j x y t hx hy hci hcj ht
    have hi : i < ops.size := (Array.getElem?_eq_some_iff.1 hx).1
    have hj : j < ops.size := (Array.getElem?_eq_some_iff.1 hy).1
    have h2 := (hrow i hi).2.1 j hj
    unfold pairC at h2
    simp only [hx, hy, ht, if_neg hci, if_neg hcj] at h2
    rw [Bool.and_eq_true] at h2
    refine ⟨fun e => ?_, fun hm => ?_⟩
    · have := h2.1
      rw [e] at this
      simpa using this
    · have h3 := h2.2
      by_cases hc1 : cls ks j = 1 ∧ cls ks i = 0
      · rw [if_pos hc1] at h3
        simp at h3
        exact absurd hm h3
      · rw [if_neg hc1] at h3
        simp at h3
        rcases h3 with (h | h) | h
        · exact absurd hm h
        · exact .inl h
        · exact .inr h
  have nosel : ∀ (i : Nat) (x : Oper) cs b, ops[i]? = some x → x.op ≠ .select cs b := by
    intro i x cs b hx hc
    have hi : i < ops.size := (Array.getElem?_eq_some_iff.1 hx).1
    have h1 := (hrow i hi).1
    rw [hx] at h1
    simp [hc, isSel] at h1
  have deps : ∀ (d : Nat → Bool) (i : Nat) (o : Oper), may ops d i → ops[i]? = some o → ∀ e, e ∈ o.after → Region.binds .any e = true → d e.on = true := by
    intro d i o hmay ho e h1 h2
    have := hmay.2 o ho
    rw [Array.all_eq_true_iff_forall_mem] at this
    have := this e h1
    rw [h2] at this
    simpa using this
  have tailb : ∀ (d : Nat → Bool) (i : Nat), Closed ops d → cls ks i = 2 → i < ops.size → may ops d i → ∀ j, j < ops.size → (cls ks j ≠ 2 ∨ j < i) → d j = true := by
    intro d i hcl hc hi hmay j hj hor
    rcases (hrow i hi).2.2 hc j hj with ⟨h1, h2⟩ | h
    · rcases hor with h3 | h3
      · exact absurd h1 h3
      · omega
    · rw [masks_get ops ops.size i hi] at h
      exact mask_done he d hcl ops.size i hi (Nat.le_refl _) (fun o ho => deps d i o hmay ho) j h
  let J1 : (Nat → Bool) → Act → World → Prop := fun d x wx => ∃ U : Nat → Value, x = fr ops (VU ks V U) d a ops.size ∧ I d U wx ∧ Closed ops d ∧ (∀ j, cls ks j = 2 → d j = false) ∧ ∃ j, j < ops.size ∧ cls ks j ≠ 2 ∧ d j = false
  let J2 : (Nat → Bool) → Act → World → Prop := fun d x wx => ∃ m, m ≤ ops.size ∧ Closed ops d ∧ (∀ j, j < ops.size → d j = (decide (cls ks j ≠ 2) || decide (j < m))) ∧ wpList P ops Q (tl (ops.toList.drop m) (ks.drop m)) x wx
  have enter : ∀ d x wx (U : Nat → Value), x = fr ops (VU ks V U) d a ops.size → I d U wx → Closed ops d → (∀ j, cls ks j = 2 → d j = false) → (∀ j, j < ops.size → cls ks j ≠ 2 → d j = true) → J2 d x wx := by
    intro d x wx U hx hIw hcl hf htr
    have hdd : ∀ j, j < ops.size → d j = decide (cls ks j ≠ 2) := fun j hj => by
      by_cases hc : cls ks j = 2
      · rw [hf j hc, hc]; simp
      · rw [htr j hj hc]; simp [hc]
    refine ⟨0, Nat.zero_le _, hcl, fun j hj => ?_, ?_⟩
    · by_cases hc : cls ks j = 2
      · rw [hf j hc, hc]; simp
      · rw [htr j hj hc]; simp [hc]
    · have h1 := hE d U wx hIw hdd
      rw [List.drop_zero, List.drop_zero, hx, fr_congr (VU ks V U) a d (isDN ks) ops.size (fun j hj => ?_)]
      · exact h1
      · by_cases hc : cls ks j = 2
        · rw [hf j hc]; simp [isDN, hc]
        · rw [htr j hj hc]
          unfold isDN
          have h3c := hthree j hj
          by_cases h0c : cls ks j = 0
          · simp [h0c]
          · by_cases h1c : cls ks j = 1
            · simp [h1c]
            · omega
  refine wp_region_inv (fun d x wx => J1 d x wx ∨ J2 d x wx) hm he ?_ ?_ ?_
  · have hz : ∀ V', fr ops V' (fun _ => false) a ops.size = a := by
      intro V'
      have : ∀ k, fr ops V' (fun _ => false) a k = a := by
        intro k
        induction k with
        | zero => rfl
        | succ k ih => rw [fr, ih]; simp
      exact this _
    have hcl0 : Closed ops (fun _ => false) := fun _ _ _ h => by cases h
    by_cases hall : ∀ j, j < ops.size → cls ks j = 2
    · exact .inr (enter _ _ _ (fun _ => undef) (hz _).symm h0 hcl0 (fun _ _ => rfl) (fun j hj h => absurd (hall j hj) h))
    · rw [Classical.not_forall] at hall
      obtain ⟨j, hj⟩ := hall
      rw [Classical.not_imp] at hj
      exact .inl ⟨fun _ => undef, (hz _).symm, h0, hcl0, (fun _ _ => rfl), j, hj.1, hj.2, rfl⟩
  · rintro d x wx i (⟨U, rfl, hI, hcl, hfz, j0, hj0, hcj0, hdj0⟩ | ⟨m, hm', hcl, hd, hw⟩) hi hmay
    · have hci : cls ks i ≠ 2 := by
        intro h
        have := tailb d i hcl h hi hmay j0 hj0 (.inl hcj0)
        rw [hdj0] at this; cases this
      obtain ⟨o, ho⟩ : ∃ o, ops[i]? = some o := ⟨ops[i], Array.getElem?_eq_getElem hi⟩
      have hdeps := deps d i o hmay ho
      have hput : ∀ (V' : Nat → Value) v, v = V' i → (fr ops V' d a ops.size).put o.dst v = fr ops V' (don d i) a ops.size := by
        rintro V' v rfl
        rw [fr_put2 V' a d i hmay.1 ops.size (fun j hj hdj t ht => fun hjt => ?_), if_pos hi, ho]
        · rfl
        · obtain ⟨y, hy⟩ : ∃ y, ops[j]? = some y := ⟨ops[j], Array.getElem?_eq_getElem hj⟩
          rw [hy] at hjt
          rw [ho] at ht
          have hcj : cls ks j ≠ 2 := by intro h; rw [hfz j h] at hdj; cases hdj
          have := (pair i j o y t ho hy hci hcj hjt).1 ht
          subst this
          rw [hmay.1] at hdj; cases hdj
      have hclo : Closed ops (don d i) := by
        intro j o' hj hdj e e1 e2
        have : d e.on = true := by
          by_cases hji : j = i
          · subst hji
            rw [ho] at hj
            cases hj
            exact hdeps e e1 e2
          · rw [don_other _ _ _ hji] at hdj
            exact hcl j o' hj hdj e e1 e2
        unfold don; split
        · rfl
        · exact this
      have hnext : ∀ (U' : Nat → Value) x w', x = fr ops (VU ks V U') (don d i) a ops.size → I (don d i) U' w' → J1 (don d i) x w' ∨ J2 (don d i) x w' := by
        intro U' x w' hx hI'
        have hf' : ∀ j, cls ks j = 2 → don d i j = false := fun j hj => by
          have hji : j ≠ i := by intro e; subst e; exact hci hj
          rw [don_other _ _ _ hji]; exact hfz j hj
        by_cases hall : ∀ j, j < ops.size → cls ks j ≠ 2 → don d i j = true
        · exact .inr (enter _ _ _ U' hx hI' hclo hf' hall)
        · refine .inl ⟨U', hx, hI', hclo, hf', ?_⟩
          rw [Classical.not_forall] at hall
          obtain ⟨j, hj⟩ := hall
          rw [Classical.not_imp, Classical.not_imp] at hj
          exact ⟨j, hj.1, hj.2.1, by simpa using hj.2.2⟩
      have hsame : ∀ t, t ∈ o.looksAt ops → (fr ops (VU ks V U) d a ops.size).tmps[t]? = (fr ops (VU ks V U) (isDN ks) a i).tmps[t]? := by
        intro t ht
        have := fr_get2 (ops := ops) (VU ks V U) a d (isDN ks) i t ops.size (fun j hj hjt => by
          obtain ⟨y, hy⟩ : ∃ y, ops[j]? = some y := ⟨ops[j], Array.getElem?_eq_getElem hj⟩
          rw [hy] at hjt
          by_cases hc2 : cls ks j = 2
          · exact .inr ⟨hfz j hc2, .inl (by simp [isDN, hc2])⟩
          · have hdn : isDN ks j = true := by
              have := hthree j hj
              unfold isDN
              by_cases h0c : cls ks j = 0
              · simp [h0c]
              · have : cls ks j = 1 := by omega
                simp [this]
            rcases (pair i j o y t ho hy hci hc2 hjt).2 ht with ⟨h1, h2⟩ | ⟨h1, h2⟩
            · obtain ⟨e, e1, e2, e3⟩ := bindsOn_spec h2
              exact .inl ⟨h1, e3 ▸ hdeps e e1 e2, hdn⟩
            · refine .inr ⟨?_, .inr (by omega)⟩
              cases hdj : d j with
              | false => rfl
              | true =>
                obtain ⟨e, e1, e2, e3⟩ := bindsOn_spec h2
                have := hcl j y hy hdj e e1 e2
                rw [e3, hmay.1] at this; cases this)
        rw [this, show min ops.size i = i by omega]
      have hex : execOp (fr ops (VU ks V U) d a ops.size).eval o = execOp (fr ops (VU ks V U) (isDN ks) a i).eval o := by
        refine execOp_congr o (fun cs b => nosel i o cs b ho) (fun x hx => ?_)
        cases x with
        | tmp t => exact eval_get (hsame t (mem_looks hx))
        | _ => rfl
      have hwa := wanted_get hsame
      by_cases hc0 : cls ks i = 0
      · have hVi : V i = VU ks V U i := by unfold VU; rw [if_neg (by omega)]
        unfold wpOp
        rw [ho]
        simp only
        rcases hstD i o U (by simpa using ho) hc0 with ⟨h1, h2⟩ | ⟨h1, h2, h3⟩
        · rw [hwa, h1, if_pos rfl]
          refine .inl ?_
          unfold Oper.wp
          rw [hex]
          exact upv_upon (h2 _ d wx hI hmay (fun w' hI' => hnext U _ _ (hput _ _ hVi) hI'))
        · rw [hwa, h1]
          simp only [Bool.false_eq_true, if_false]
          exact hnext U _ _ (hput _ _ (h2.symm.trans hVi)) (h3 d wx hI hmay)
      · have hc1 : cls ks i = 1 := by have := hthree i hi; omega
        obtain ⟨hg, hrun⟩ := hstN i o U (by simpa using ho) hc1
        unfold wpOp
        rw [ho]
        simp only
        rw [if_pos (show Region.wanted o (yielded ops (fr ops (VU ks V U) d a ops.size).tmps) = true by simp [Region.wanted, hg])]
        refine .inl ?_
        unfold Oper.wp
        rw [hex]
        refine upv_upon (hrun _ d wx hI hmay (fun v w' hI' => ?_))
        have hU : ∀ j, j ≠ i → updU U i v j = U j := fun j hj => by unfold updU; rw [if_neg hj]
        have hUi : updU U i v i = v := by simp [updU]
        have hfr : fr ops (VU ks V U) d a ops.size = fr ops (VU ks V (updU U i v)) d a ops.size := fr_V a d _ _ _ (fun j _ hdj => by
          have hji : j ≠ i := by intro e; subst e; rw [hmay.1] at hdj; cases hdj
          unfold VU; rw [hU j hji])
        have hval : v = VU ks V (updU U i v) i := by unfold VU; rw [if_pos hc1, hUi]
        exact hnext (updU U i v) _ _ (by rw [hfr]; exact hput _ _ hval) hI'
    · have hci : cls ks i = 2 := by
        have h1 := hd i hi
        rw [hmay.1] at h1
        by_cases hc : cls ks i = 2
        · exact hc
        · simp [hc] at h1
      have him : ¬ i < m := by
        intro h
        have h1 := hd i hi
        rw [hmay.1, decide_eq_true h] at h1
        simp at h1
      have hbefore := tailb d i hcl hci hi hmay
      have hnone : ∀ j, m ≤ j → j < i → ks.getD j 2 ≠ 2 := by
        intro j h1 h2 h3
        have h4 := hbefore j (by omega) (.inr h2)
        rw [hd j (by omega)] at h4
        have : cls ks j = 2 := h3
        rw [this, decide_eq_false (show ¬ j < m by omega)] at h4
        simp at h4
      have hlo : ops.toList.length = ks.length := by simp [hlen]
      rw [tl_skip ops.toList ks m i (by omega) hnone (by omega) hlo, tl_here ops.toList ks i (by simpa using hi) (by omega) hci] at hw
      have hcloD : Closed ops (don d i) := by
        obtain ⟨o, ho⟩ : ∃ o, ops[i]? = some o := ⟨ops[i], Array.getElem?_eq_getElem hi⟩
        intro j o' hj hdj e e1 e2
        have : d e.on = true := by
          by_cases hji : j = i
          · subst hji; exact deps d j o' hmay hj e e1 e2
          · rw [don_other _ _ _ hji] at hdj
            exact hcl j o' hj hdj e e1 e2
        unfold don; split
        · rfl
        · exact this
      have key : ∀ x' w', wpList P ops Q (tl (ops.toList.drop (i + 1)) (ks.drop (i + 1))) x' w' → J1 (don d i) x' w' ∨ J2 (don d i) x' w' := fun x' w' h => .inr ⟨i + 1, by omega, hcloD, fun j hj => by
        by_cases hji : j = i
        · subst hji; rw [don_same]; simp
        · rw [don_other _ _ _ hji, hd j hj]
          by_cases hc : cls ks j = 2
          · have e : decide (j < m) = decide (j < i + 1) := by
              rw [decide_eq_decide]
              constructor
              · intro _; omega
              · intro h1
                rcases Nat.lt_or_ge j m with h2 | h2
                · exact h2
                · exact absurd hc (hnone j h2 (by omega))
            rw [e]
          · simp [hc], h⟩
      refine wpOp_mono key ?_
      unfold wpOp
      rw [Array.getElem?_eq_getElem hi]
      rw [show ops.toList[i] = ops[i] by simp] at hw
      exact hw
  · rintro d x wx (⟨_, _, _, _, _, j, hj, _, hdj⟩ | ⟨m, hm', hcl, hd, hw⟩) hall
    · have := hall j hj
      rw [hdj] at this; cases this
    · have hlo : ops.toList.length = ks.length := by simp [hlen]
      rw [tl_skip ops.toList ks m ops.size hm' (fun j h1 h2 h3 => by
        have h4 := hall j h2
        rw [hd j h2] at h4
        have : cls ks j = 2 := h3
        rw [this, decide_eq_false (show ¬ j < m by omega)] at h4
        simp at h4) (by omega) hlo, List.drop_eq_nil_of_le (by simp)] at hw
      unfold tl at hw
      exact hw
section
variable {I : (Nat → Bool) → (Nat → Value) → World → Prop} {E : ((Nat → Value) → Act) → Prop} {j : Nat} {o : Oper} {r : List Oper} {k : List Nat} {f f' : (Nat → Value) → Act} {v : Value}
theorem goD (hg : o.guard = none) (h : ∀ U (K : Value → World → Prop) d w, I d U w → may ops d j → (∀ w', I (don d j) U w' → K v w') → upv P K ((execOp (f U).eval o).run P w)) (he : ∀ U, (f U).put o.dst v = f' U)
    (hr : Walk P ops I E (j + 1) r k f') : Walk P ops I E j (o :: r) (0 :: k) f := by
  unfold Walk
  rw [if_pos rfl]
  have e : (fun U => (f U).put o.dst v) = f' := funext he
  exact ⟨v, fun U => .inl ⟨by simp [Region.wanted, hg], h U⟩, e ▸ hr⟩
theorem goDg (hg : ∀ U, Region.wanted o (yielded ops (f U).tmps) = true) (h : ∀ U (K : Value → World → Prop) d w, I d U w → may ops d j → (∀ w', I (don d j) U w' → K v w') → upv P K ((execOp (f U).eval o).run P w)) (he : ∀ U, (f U).put o.dst v = f' U)
    (hr : Walk P ops I E (j + 1) r k f') : Walk P ops I E j (o :: r) (0 :: k) f := by
  unfold Walk
  rw [if_pos rfl]
  have e : (fun U => (f U).put o.dst v) = f' := funext he
  exact ⟨v, fun U => .inl ⟨hg U, h U⟩, e ▸ hr⟩
theorem goD0 (hg : ∀ U, Region.wanted o (yielded ops (f U).tmps) = false) (h : ∀ U d w, I d U w → may ops d j → I (don d j) U w) (he : ∀ U, (f U).put o.dst undef = f' U)
    (hr : Walk P ops I E (j + 1) r k f') : Walk P ops I E j (o :: r) (0 :: k) f := by
  unfold Walk
  rw [if_pos rfl]
  have e : (fun U => (f U).put o.dst undef) = f' := funext he
  exact ⟨undef, fun U => .inr ⟨hg U, rfl, h U⟩, e ▸ hr⟩
theorem goN (hg : o.guard = none) (h : ∀ U (K : Value → World → Prop) d w, I d U w → may ops d j → (∀ v w', I (don d j) (updU U j v) w' → K v w') → upv P K ((execOp (f U).eval o).run P w)) (he : ∀ U, (f U).put o.dst (U j) = f' U)
    (hr : Walk P ops I E (j + 1) r k f') : Walk P ops I E j (o :: r) (1 :: k) f := by
  unfold Walk
  rw [if_neg (by decide), if_pos rfl]
  have e : (fun U => (f U).put o.dst (U j)) = f' := funext he
  exact ⟨hg, h, e ▸ hr⟩
theorem goT (hr : Walk P ops I E (j + 1) r k f) : Walk P ops I E j (o :: r) (2 :: k) f := by
  unfold Walk
  rw [if_neg (by decide), if_neg (by decide)]
  exact hr
theorem go_end (h : E f) : Walk P ops I E j [] [] f := by
  unfold Walk; exact h
end
end RH
end Go.Proofs.Ytengpjalkiibiaa
