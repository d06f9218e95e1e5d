/-
  Flow (layer 16): what the walk is: the blocks that are reached, each once; which ends lead back.
-/
import Derived.Test.YtobibplilbchfaaFlS
namespace Go.Proofs.Ytobibplilbchfaa
open Go.RowKit
set_option linter.unusedVariables false
set_option linter.unusedSimpArgs false
set_option linter.unnecessarySimpa false
structure GW (bs : List Bk) (x : Wk) : Prop where
  ln : x.st.length = bs.length
  vl : ∀ k, k < bs.length → x.st.getD k 0 = 0 ∨ x.st.getD k 0 = 1 ∨ x.st.getD k 0 = 2
  lf : ∀ k : Nat, k < bs.length → ((k : Int) ∈ x.left ↔ x.st.getD k 0 = 2)
  li : ∀ z ∈ x.left, InB bs z
  nd : x.left.Nodup
  rc : ∀ k, k < bs.length → x.st.getD k 0 ≠ 0 → Rch bs k
  bb : ∀ p ∈ x.back, InB bs p.1 ∧ x.st.getD p.1.toNat 0 ≠ 0
  dn : ∀ k, k < bs.length → x.st.getD k 0 = 2 → ∀ m : Nat, (m : Int) ∈ outsF bs k → x.st.getD m 0 ≠ 0 ∧ (((k : Int), (m : Int)) ∈ x.back ↔ ¬x.left.idxOf (m : Int) < x.left.idxOf (k : Int))
structure Stp (bs : List Bk) (x y : Wk) (A : Int × Int → Prop) : Prop where
  g1 : ∀ j, j < bs.length → x.st.getD j 0 = 1 → y.st.getD j 0 = 1
  g2 : ∀ j, j < bs.length → x.st.getD j 0 = 2 → y.st.getD j 0 = 2
  g0 : ∀ j, j < bs.length → x.st.getD j 0 = 0 → y.st.getD j 0 = 0 ∨ y.st.getD j 0 = 2
  nz : ∀ j, j < bs.length → x.st.getD j 0 ≠ 0 → y.st.getD j 0 ≠ 0
  lp : ∃ l, y.left = x.left ++ l
  bp : ∃ b, y.back = x.back ++ b ∧ ∀ p ∈ b, InB bs p.1 ∧ (x.st.getD p.1.toNat 0 = 0 ∨ A p)
  zr : zer y.st ≤ zer x.st
theorem Stp.refl (bs : List Bk) (x : Wk) (A : Int × Int → Prop) : Stp bs x x A := ⟨fun _ _ h => h, fun _ _ h => h, fun _ _ h => .inl h, fun _ _ h => h, ⟨[], by simp⟩, ⟨[], by simp⟩, Nat.le_refl _⟩
theorem Stp.trans {bs : List Bk} {x y z : Wk} {A B C : Int × Int → Prop} (h : Stp bs x y A) (k : Stp bs y z B) (hA : ∀ p, A p → C p) (hB : ∀ p, B p → C p) : Stp bs x z C := by
  obtain ⟨l1, e1⟩ := h.lp
  obtain ⟨l2, e2⟩ := k.lp
  obtain ⟨b1, e3, h3⟩ := h.bp
  obtain ⟨b2, e4, h4⟩ := k.bp
  refine ⟨fun j hj q => k.g1 j hj (h.g1 j hj q), fun j hj q => k.g2 j hj (h.g2 j hj q), fun j hj q => ?_, fun j hj q => k.nz j hj (h.nz j hj q), ⟨l1 ++ l2, by rw [e2, e1, List.append_assoc]⟩, ⟨b1 ++ b2, by rw [e4, e3, List.append_assoc], fun p hp => ?_⟩, Nat.le_trans k.zr h.zr⟩
  · rcases h.g0 j hj q with r | r
    · exact k.g0 j hj r
    · exact .inr (k.g2 j hj r)
  · rcases List.mem_append.1 hp with hp | hp
    · obtain ⟨i1, i2⟩ := h3 p hp
      exact ⟨i1, i2.imp id (hA p)⟩
    · obtain ⟨i1, i2⟩ := h4 p hp
      have hlt : p.1.toNat < bs.length := by unfold InB at i1; omega
      refine ⟨i1, i2.imp (fun q => ?_) (hB p)⟩
      by_cases q0 : x.st.getD p.1.toNat 0 = 0
      · exact q0
      · exact absurd q (h.nz _ hlt q0)
theorem getD_setI (l : List Int) (k j : Nat) (x : Int) (hk : k < l.length) : (l.set k x).getD j 0 = if j = k then x else l.getD j 0 := getD_setV l k j x 0 hk
theorem idx_app {l l2 : List Int} {a : Int} (h : a ∈ l) : (l ++ l2).idxOf a = l.idxOf a := by rw [List.idxOf_append, if_pos h]
theorem idx_no {l l2 : List Int} {a : Int} (h : a ∉ l) : l.length ≤ (l ++ l2).idxOf a := by rw [List.idxOf_append, if_neg h]; omega
/-- Into a block, and on from one. -/
theorem walk_ok (bs : List Bk) : ∀ f,
    (∀ (n : Nat) (x : Wk), n < bs.length → GW bs x → x.st.getD n 0 = 0 → Rch bs n → zer x.st ≤ f → GW bs (intoF bs f (n : Int) x) ∧ Stp bs x (intoF bs f (n : Int) x) (fun _ => False) ∧ (intoF bs f (n : Int) x).st.getD n 0 = 2)
  | 0 => fun n x hn hg h0 hr hz => by
    have := zer_set (st := x.st) (n := n) (by rw [hg.ln]; exact hn) h0
    omega
  | f + 1 => fun n x hn hg h0 hr hz => by
    have ih := walk_ok bs f
    have on : ∀ (l : List Int) (x : Wk), (∀ y ∈ l, y ∈ outsF bs n) → l.Nodup → GW bs x → x.st.getD n 0 = 1 → zer x.st ≤ f → (∀ m ∈ l, ((n : Int), m) ∉ x.back) →
        GW bs (onF bs f (n : Int) l x) ∧ Stp bs x (onF bs f (n : Int) l x) (fun p => p.1 = (n : Int) ∧ p.2 ∈ l) ∧ ∀ m : Nat, (m : Int) ∈ l → (onF bs f (n : Int) l x).st.getD m 0 ≠ 0 ∧ (((n : Int), (m : Int)) ∈ (onF bs f (n : Int) l x).back ↔ x.st.getD m 0 = 1) := by
      intro l
      induction l with
      | nil => intro x _ _ hg _ _ _; exact ⟨hg, Stp.refl _ _ _, fun m hm => by cases hm⟩
      | cons y l ihl =>
        intro x hl hnd hg h1 hz hnb
        have hyo := hl y (by simp)
        have hyb := outsF_in hyo
        obtain ⟨m, rfl⟩ : ∃ m : Nat, y = (m : Int) := ⟨y.toNat, by omega⟩
        have hmb : m < bs.length := by omega
        have hnd2 := List.nodup_cons.1 hnd
        have hl2 : ∀ y ∈ l, y ∈ outsF bs n := fun y hy => hl y (by simp [hy])
        have hnl : ∀ z ∈ l, z ≠ (m : Int) := fun z hz e => hnd2.1 (e ▸ hz)
        by_cases q1 : x.st.getD m 0 = 1
        · -- it leads back
          have e : onF bs f (n : Int) ((m : Int) :: l) x = onF bs f (n : Int) l ⟨x.st, x.left, x.back ++ [((n : Int), (m : Int))]⟩ := on_back (by simpa using q1)
          have hg' : GW bs ⟨x.st, x.left, x.back ++ [((n : Int), (m : Int))]⟩ := by
            refine ⟨hg.ln, hg.vl, hg.lf, hg.li, hg.nd, hg.rc, fun p hp => ?_, fun k hk q m' hm' => ?_⟩
            · rcases List.mem_append.1 hp with hp | hp
              · exact hg.bb p hp
              · have : p = ((n : Int), (m : Int)) := by simpa using hp
                subst this
                exact ⟨⟨by show (0 : Int) ≤ (n : Int); omega, by show (n : Int) < _; omega⟩, by show x.st.getD (n : Int).toNat 0 ≠ 0; rw [Int.toNat_natCast, h1]; decide⟩
            · obtain ⟨z1, z2⟩ := hg.dn k hk q m' hm'
              refine ⟨z1, ?_⟩
              rw [List.mem_append, z2]
              refine or_iff_left fun hq => ?_
              have : ((k : Int), (m' : Int)) = ((n : Int), (m : Int)) := by simpa using hq
              injection this with e1 _
              have hkn : k = n := by omega
              have q' : x.st.getD k 0 = 2 := q
              rw [hkn, h1] at q'
              exact absurd q' (by decide)
          obtain ⟨r1, r2, r3⟩ := ihl ⟨x.st, x.left, x.back ++ [((n : Int), (m : Int))]⟩ hl2 hnd2.2 hg' h1 hz (fun z hz hq => by
            rcases List.mem_append.1 hq with hq | hq
            · exact hnb z (by simp [hz]) hq
            · have : ((n : Int), z) = ((n : Int), (m : Int)) := by simpa using hq
              injection this with _ e2
              exact hnl z hz e2)
          rw [e]
          have hstp : Stp bs x ⟨x.st, x.left, x.back ++ [((n : Int), (m : Int))]⟩ (fun p => p.1 = (n : Int) ∧ p.2 ∈ (m : Int) :: l) := ⟨fun _ _ h => h, fun _ _ h => h, fun _ _ h => .inl h, fun _ _ h => h, ⟨[], by simp⟩, ⟨[((n : Int), (m : Int))], rfl, fun p hp => by
            have : p = ((n : Int), (m : Int)) := by simpa using hp
            subst this
            exact ⟨⟨by show (0 : Int) ≤ (n : Int); omega, by show (n : Int) < _; omega⟩, .inr ⟨rfl, by simp⟩⟩⟩, Nat.le_refl _⟩
          refine ⟨r1, hstp.trans r2 (fun p h => h) (fun p h => ⟨h.1, by simp [h.2]⟩), fun m' hm' => ?_⟩
          rcases List.mem_cons.1 hm' with e2 | hm'
          · have : m' = m := by omega
            subst this
            refine ⟨r2.nz _ hmb (by show x.st.getD _ 0 ≠ 0; rw [q1]; decide), iff_of_true ?_ q1⟩
            obtain ⟨b, eb, _⟩ := r2.bp
            rw [eb]
            exact List.mem_append_left _ (List.mem_append_right _ (List.mem_singleton.2 rfl))
          · exact r3 m' hm'
        · by_cases q0 : x.st.getD m 0 = 0
          · have e : onF bs f (n : Int) ((m : Int) :: l) x = onF bs f (n : Int) l (intoF bs f (m : Int) x) := on_enter (by simpa using q0)
            obtain ⟨s1, s2, s3⟩ := ih m x hmb hg q0 (.step (hg.rc n hn (by rw [h1]; decide)) (List.contains_iff_mem.2 hyo)) hz
            have hnn : x.st.getD n 0 ≠ 0 := by rw [h1]; decide
            obtain ⟨b0, eb0, hb0⟩ := s2.bp
            have hback : ∀ z, ((n : Int), z) ∈ (intoF bs f (m : Int) x).back → ((n : Int), z) ∈ x.back := fun z hq => by
              rw [eb0] at hq
              rcases List.mem_append.1 hq with hq | hq
              · exact hq
              · have := (hb0 _ hq).2.resolve_right id
                rw [Int.toNat_natCast] at this
                exact absurd this hnn
            obtain ⟨r1, r2, r3⟩ := ihl (intoF bs f (m : Int) x) hl2 hnd2.2 s1 (s2.g1 n hn h1) (Nat.le_trans s2.zr hz) (fun z hz hq => hnb z (by simp [hz]) (hback z hq))
            rw [e]
            refine ⟨r1, s2.trans r2 (fun p h => h.elim) (fun p h => ⟨h.1, by simp [h.2]⟩), fun m' hm' => ?_⟩
            rcases List.mem_cons.1 hm' with e2 | hm'
            · have : m' = m := by omega
              subst this
              refine ⟨r2.nz _ hmb (by rw [s3]; decide), iff_of_false (fun hq => ?_) q1⟩
              obtain ⟨b, eb, hb⟩ := r2.bp
              rw [eb] at hq
              rcases List.mem_append.1 hq with hq | hq
              · exact hnb _ (by simp) (hback _ hq)
              · rcases (hb _ hq).2 with h | h
                · rw [Int.toNat_natCast] at h
                  exact s2.nz n hn hnn h
                · exact hnl _ h.2 rfl
            · obtain ⟨t1, t2⟩ := r3 m' hm'
              have hmb' : m' < bs.length := by have := outsF_in (hl2 _ hm'); omega
              refine ⟨t1, t2.trans ⟨fun h => ?_, fun h => s2.g1 m' hmb' h⟩⟩
              rcases hg.vl m' hmb' with v | v | v
              · rcases s2.g0 m' hmb' v with r | r <;> omega
              · exact v
              · have := s2.g2 m' hmb' v; omega
          · have e : onF bs f (n : Int) ((m : Int) :: l) x = onF bs f (n : Int) l x := on_skip (by simpa using q0) (by simpa using q1)
            obtain ⟨r1, r2, r3⟩ := ihl x hl2 hnd2.2 hg h1 hz (fun z hz => hnb z (by simp [hz]))
            rw [e]
            refine ⟨r1, (Stp.refl bs x (fun _ => False)).trans r2 (fun p h => h.elim) (fun p h => ⟨h.1, by simp [h.2]⟩), fun m' hm' => ?_⟩
            rcases List.mem_cons.1 hm' with e2 | hm'
            · have : m' = m := by omega
              subst this
              refine ⟨r2.nz _ hmb q0, iff_of_false (fun hq => ?_) q1⟩
              obtain ⟨b, eb, hb⟩ := r2.bp
              rw [eb] at hq
              rcases List.mem_append.1 hq with hq | hq
              · exact hnb _ (by simp) hq
              · rcases (hb _ hq).2 with h | h
                · rw [Int.toNat_natCast, h1] at h
                  exact absurd h (by decide)
                · exact hnl _ h.2 rfl
            · exact r3 m' hm'
    -- into the block
    have hns : n < x.st.length := by rw [hg.ln]; exact hn
    have hz1 := zer_set hns h0
    have hnl0 : (n : Int) ∉ x.left := fun q => by have := (hg.lf n hn).1 q; omega
    have hge : GW bs ⟨x.st.set n 1, x.left, x.back⟩ := by
      have hs := fun j => getD_setI x.st n j 1 hns
      refine ⟨by simp [hg.ln], fun k hk => ?_, fun k hk => ?_, hg.li, hg.nd, fun k hk q => ?_, fun p hp => ⟨(hg.bb p hp).1, ?_⟩, fun k hk q m hm => ?_⟩
      · show (x.st.set n 1).getD k 0 = 0 ∨ _
        rw [hs]; split
        · exact .inr (.inl rfl)
        · exact hg.vl k hk
      · show _ ↔ (x.st.set n 1).getD k 0 = 2
        rw [hs]; split
        · rename_i e; subst e; exact iff_of_false hnl0 (by decide)
        · exact hg.lf k hk
      · have q' : (x.st.set n 1).getD k 0 ≠ 0 := q
        rw [hs] at q'
        split at q'
        · rename_i e; subst e; exact hr
        · exact hg.rc k hk q'
      · show (x.st.set n 1).getD _ 0 ≠ 0
        rw [hs]; split
        · decide
        · exact (hg.bb p hp).2
      · have q' : (x.st.set n 1).getD k 0 = 2 := q
        rw [hs] at q'
        split at q'
        · exact absurd q' (by decide)
        · obtain ⟨z1, z2⟩ := hg.dn k hk q' m hm
          refine ⟨?_, z2⟩
          show (x.st.set n 1).getD m 0 ≠ 0
          rw [hs]; split
          · decide
          · exact z1
    have hst1 : Stp bs x ⟨x.st.set n 1, x.left, x.back⟩ (fun _ => False) ∨ True := .inr trivial
    obtain ⟨r1, r2, r3⟩ := on (outsF bs n) ⟨x.st.set n 1, x.left, x.back⟩ (fun y hy => hy) (outsF_nodup bs n) hge (by show (x.st.set n 1).getD n 0 = 1; rw [getD_setI _ _ _ _ hns, if_pos rfl]) (by show zer (x.st.set n 1) ≤ f; omega) (fun m hm hq => by
      have := (hg.bb _ hq).2
      rw [Int.toNat_natCast] at this
      exact this h0)
    have e : intoF bs (f + 1) (n : Int) x = ⟨(onF bs f (n : Int) (outsF bs n) ⟨x.st.set n 1, x.left, x.back⟩).st.set n 2, (onF bs f (n : Int) (outsF bs n) ⟨x.st.set n 1, x.left, x.back⟩).left ++ [(n : Int)], (onF bs f (n : Int) (outsF bs n) ⟨x.st.set n 1, x.left, x.back⟩).back⟩ := by
      rw [into_succ, Int.toNat_natCast]
    rw [e]
    generalize onF bs f (n : Int) (outsF bs n) ⟨x.st.set n 1, x.left, x.back⟩ = y at *
    have hys : n < y.st.length := by rw [r1.ln]; exact hn
    have hy := fun j => getD_setI y.st n j 2 hys
    have hx := fun j => getD_setI x.st n j 1 hns
    have hyn : y.st.getD n 0 = 1 := r2.g1 n hn (by show (x.st.set n 1).getD n 0 = 1; rw [hx, if_pos rfl])
    have hnl : (n : Int) ∉ y.left := fun q => by have := (r1.lf n hn).1 q; omega
    refine ⟨⟨by simp [r1.ln], fun k hk => ?_, fun k hk => ?_, fun z hz => ?_, ?_, fun k hk q => ?_, fun p hp => ⟨(r1.bb p hp).1, ?_⟩, fun k hk q m hm => ?_⟩, ⟨fun j hj q => ?_, fun j hj q => ?_, fun j hj q => ?_, fun j hj q => ?_, ?_, ?_, ?_⟩, ?_⟩
    · show (y.st.set n 2).getD k 0 = 0 ∨ _
      rw [hy]; split
      · exact .inr (.inr rfl)
      · exact r1.vl k hk
    · show (k : Int) ∈ y.left ++ [(n : Int)] ↔ (y.st.set n 2).getD k 0 = 2
      rw [hy, List.mem_append, List.mem_singleton]
      by_cases e : k = n
      · rw [if_pos e]; exact iff_of_true (.inr (by omega)) rfl
      · rw [if_neg e, ← r1.lf k hk]
        exact or_iff_left fun q => e (by omega)
    · rcases List.mem_append.1 hz with hz | hz
      · exact r1.li z hz
      · have : z = (n : Int) := by simpa using hz
        subst this
        exact ⟨by omega, by omega⟩
    · show (y.left ++ [(n : Int)]).Nodup
      refine List.nodup_append.2 ⟨r1.nd, by simp, fun a ha b hb e => ?_⟩
      have : b = (n : Int) := by simpa using hb
      subst this
      exact hnl (e ▸ ha)
    · have q' : (y.st.set n 2).getD k 0 ≠ 0 := q
      rw [hy] at q'
      split at q'
      · rename_i e; subst e; exact hr
      · exact r1.rc k hk q'
    · show (y.st.set n 2).getD _ 0 ≠ 0
      rw [hy]; split
      · decide
      · exact (r1.bb p hp).2
    · have q' : (y.st.set n 2).getD k 0 = 2 := q
      rw [hy] at q'
      have hmb : m < bs.length := by have := outsF_in hm; omega
      have hne : ∀ j, y.st.getD j 0 ≠ 0 → (y.st.set n 2).getD j 0 ≠ 0 := fun j h => by
        rw [hy]; split
        · decide
        · exact h
      show (y.st.set n 2).getD m 0 ≠ 0 ∧ (_ ↔ ¬(y.left ++ [(n : Int)]).idxOf (m : Int) < (y.left ++ [(n : Int)]).idxOf (k : Int))
      by_cases e : k = n
      · subst e
        obtain ⟨t1, t2⟩ := r3 m hm
        have hik : (y.left ++ [(k : Int)]).idxOf (k : Int) = y.left.length := by rw [List.idxOf_append, if_neg hnl]; simp
        refine ⟨hne m t1, t2.trans ?_⟩
        rw [hik]
        show (x.st.set k 1).getD m 0 = 1 ↔ _
        constructor
        · intro h1
          have hm1 := r2.g1 m hmb h1
          have hml : (m : Int) ∉ y.left := fun q => by have := (r1.lf m hmb).1 q; omega
          have := idx_no (l2 := [(k : Int)]) hml
          omega
        · intro h
          by_cases hml : (m : Int) ∈ y.left
          · exfalso
            have := List.idxOf_lt_length_of_mem hml
            rw [idx_app hml] at h
            omega
          · have hm2 : y.st.getD m 0 ≠ 2 := fun q => hml ((r1.lf m hmb).2 q)
            rcases hge.vl m hmb with v | v | v
            · rcases r2.g0 m hmb v with w | w
              · exact absurd w t1
              · exact absurd w hm2
            · exact v
            · exact absurd (r2.g2 m hmb v) hm2
      · rw [if_neg e] at q'
        obtain ⟨z1, z2⟩ := r1.dn k hk q' m hm
        have hkl : (k : Int) ∈ y.left := (r1.lf k hk).2 q'
        refine ⟨hne m z1, z2.trans ?_⟩
        rw [idx_app hkl]
        have := List.idxOf_lt_length_of_mem hkl
        by_cases hml : (m : Int) ∈ y.left
        · rw [idx_app hml]
        · have h1 := idx_no (l2 := [(n : Int)]) hml
          have h2 : y.left.idxOf (m : Int) = y.left.length := List.idxOf_eq_length hml
          rw [h2]
          omega
    · show (y.st.set n 2).getD j 0 = 1
      have hjn : j ≠ n := fun e => by subst e; omega
      rw [hy, if_neg hjn]
      exact r2.g1 j hj (by show (x.st.set n 1).getD j 0 = 1; rw [hx, if_neg hjn]; exact q)
    · show (y.st.set n 2).getD j 0 = 2
      have hjn : j ≠ n := fun e => by subst e; omega
      rw [hy, if_neg hjn]
      exact r2.g2 j hj (by show (x.st.set n 1).getD j 0 = 2; rw [hx, if_neg hjn]; exact q)
    · show (y.st.set n 2).getD j 0 = 0 ∨ (y.st.set n 2).getD j 0 = 2
      rw [hy]; split
      · exact .inr rfl
      · rename_i hjn
        exact r2.g0 j hj (by show (x.st.set n 1).getD j 0 = 0; rw [hx, if_neg hjn]; exact q)
    · show (y.st.set n 2).getD j 0 ≠ 0
      rw [hy]; split
      · decide
      · rename_i hjn
        exact r2.nz j hj (by show (x.st.set n 1).getD j 0 ≠ 0; rw [hx, if_neg hjn]; exact q)
    · obtain ⟨l, el⟩ := r2.lp
      exact ⟨l ++ [(n : Int)], by show y.left ++ _ = _; rw [el, List.append_assoc]⟩
    · obtain ⟨b, eb, hb⟩ := r2.bp
      refine ⟨b, eb, fun p hp => ⟨(hb p hp).1, .inl ?_⟩⟩
      rcases (hb p hp).2 with h | h
      · have h' : (x.st.set n 1).getD p.1.toNat 0 = 0 := h
        rw [hx] at h'
        split at h'
        · exact absurd h' (by decide)
        · exact h'
      · rw [h.1, Int.toNat_natCast]; exact h0
    · have h1 : zer y.st ≤ zer (x.st.set n 1) := r2.zr
      have h2 := zer_set2 (st := y.st) (n := n)
      show zer (y.st.set n 2) ≤ _
      omega
    · show (y.st.set n 2).getD n 0 = 2
      rw [hy, if_pos rfl]
/-- The walk of a procedure: what is left is what is reached. -/
theorem walked_ok (bs : List Bk) (h : 0 < bs.length) : GW bs (walkedF bs) ∧ ∀ k : Nat, k < bs.length → ((k : Int) ∈ (walkedF bs).left ↔ Rch bs k) := by
  have hst : ∀ k, (List.replicate bs.length (0 : Int)).getD k 0 = 0 := fun k => getD_rep _ _ _
  have hg : GW bs ⟨List.replicate bs.length 0, [], []⟩ := ⟨by simp, fun k hk => .inl (hst k), fun k hk => iff_of_false (fun q => by cases q) (by show (List.replicate bs.length (0 : Int)).getD k 0 ≠ 2; rw [hst]; decide), fun z hz => (by cases hz), List.nodup_nil, fun k hk q => absurd (hst k) q, fun p hp => (by cases hp), fun k hk q => by
    have q' : (List.replicate bs.length (0 : Int)).getD k 0 = 2 := q
    rw [hst] at q'
    exact absurd q' (by decide)⟩
  obtain ⟨r1, r2, r3⟩ := walk_ok bs bs.length 0 ⟨List.replicate bs.length 0, [], []⟩ h hg (hst 0) (.zero h) (by show zer (List.replicate bs.length 0) ≤ bs.length; unfold zer; refine Nat.le_trans List.count_le_length ?_; simp)
  have e : walkedF bs = intoF bs bs.length ((0 : Nat) : Int) ⟨List.replicate bs.length 0, [], []⟩ := by unfold walkedF; rw [if_neg (by omega)]; rfl
  rw [e]
  refine ⟨r1, fun k hk => ?_⟩
  have h02 : ∀ j, j < bs.length → (intoF bs bs.length ((0 : Nat) : Int) ⟨List.replicate bs.length 0, [], []⟩).st.getD j 0 ≠ 0 → (intoF bs bs.length ((0 : Nat) : Int) ⟨List.replicate bs.length 0, [], []⟩).st.getD j 0 = 2 := fun j hj q => (r2.g0 j hj (hst j)).resolve_left q
  rw [r1.lf k hk]
  refine ⟨fun q => r1.rc k hk (by rw [q]; decide), fun q => ?_⟩
  have key : ∀ k, Rch bs k → k < bs.length ∧ (intoF bs bs.length ((0 : Nat) : Int) ⟨List.replicate bs.length 0, [], []⟩).st.getD k 0 = 2 := fun k q => by
    induction q with
    | zero h => exact ⟨h, r3⟩
    | step _ hc ih =>
      have hm := List.contains_iff_mem.1 hc
      have hb := outsF_in hm
      exact ⟨by omega, h02 _ (by omega) (r1.dn _ ih.1 ih.2 _ hm).1⟩
  exact (key k q).2
end Go.Proofs.Ytobibplilbchfaa
