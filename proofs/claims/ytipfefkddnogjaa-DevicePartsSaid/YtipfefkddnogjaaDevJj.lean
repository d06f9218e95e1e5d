/-
  New (layer 3): what it makes is a machine that lies in the world.
-/
import Derived.Test.YtipfefkddnogjaaDevIi
import Derived.Test.YtipfefkddnogjaaDevQ
import Derived.Test.YtipfefkddnogjaaCode
import Derived.Deep.AppendLies
namespace Go.Proofs.Ytipfefkddnogjaa
open Go.RowKit
set_option linter.unusedVariables false
set_option linter.unusedSimpArgs false
/-- A slice of words or of bytes that can be read. -/
def ListAt (k : IntKind) (w : World) (v : Value) (l : List Int) : Prop :=
  (v = .slice none 0 0 ∧ l = []) ∨ ∃ ad c, v = .slice (some ad) l.length c ∧ ∀ i, i < l.length → ad.spot = none ∧ w.cell? ⟨ad.block, ad.off + i, none⟩ = some (.int k (l.getD i 0))
theorem ListAt.kept {k : IntKind} {w w' : World} {v : Value} {l : List Int} (h : ListAt k w v l) (hf : Fr (fun _ => False) w w') : ListAt k w' v l := by
  rcases h with h | ⟨ad, c, e, h⟩
  · exact .inl h
  · exact .inr ⟨ad, c, e, fun i hi => ⟨(h i hi).1, hf.cell (h i hi).2 id⟩⟩
theorem list_news {k : IntKind} {w : World} {ad : Addr} {l : List Int} (h : ∀ i, i < l.length → ad.spot = none ∧ w.cell? ⟨ad.block, ad.off + i, none⟩ = some (.int k (l.getD i 0))) :
    ∀ j u, (l.map (Value.int k))[j]? = some u → w.cell? (ad.add j) = some u := by
  intro j u hu
  have hj : j < l.length := by
    have := (List.getElem?_eq_some_iff.1 hu).1
    simpa using this
  obtain ⟨h1, h2⟩ := h j hj
  obtain ⟨b, o, sp⟩ := ad
  simp only at h1 h2
  subst h1
  have hadd : (⟨b, o, none⟩ : Addr).add j = ⟨b, o + j, none⟩ := by unfold Addr.add; split <;> simp_all
  rw [hadd, h2, ← hu]
  simp [hj, List.getD_eq_getElem?_getD]
theorem ones {k : IntKind} {l : List Int} : ∀ u ∈ l.map (Value.int k), u.oneCell' = true := by
  intro u hu
  obtain ⟨x, _, rfl⟩ := List.mem_map.1 hu
  rfl
theorem own_form {w : World} {base e size n : Nat} {v : Value} {xs : List Value} (h : w.ownsRow base e size v n xs) (hv : v ≠ .slice none 0 0) : ∃ g c, v = .slice (some ⟨g, 0, none⟩) n c ∧ base ≤ g ∧ g < w.heap.size := by
  rcases h.2 with ⟨e1, _⟩ | ⟨g, cap, cur, hv', hb, hg, _⟩
  · exact absurd e1 hv
  · exact ⟨g, cap, hv', hb, (Array.getElem?_eq_some_iff.1 hg).1⟩
def initM (ds : List Int) : MSt := { c := fun _ => 0, data := fun k => ds.getD k 0, log := [] }
theorem machL_num (g n : Nat) (dv iv : Value) {o : Nat} (ho : isNum o) : (machL g n dv iv).toArray[o]? = some (.int (kindAt o) 0) := by
  unfold isNum at ho
  unfold machL
  rw [List.getElem?_toArray]
  by_cases h : o < 35
  · rw [List.getElem?_append_left (by simpa using h), List.getElem?_replicate, if_pos h]
    have : kindAt o = .u32 := by unfold kindAt; rw [if_neg (by omega), if_neg (by omega)]
    rw [this]
  · have : o = 39 ∨ o = 40 ∨ o = 41 := by omega
    rcases this with rfl | rfl | rfl <;> rfl
theorem new_done {w w1 w2 w3 : World} {ws ds ins : List Int} {g : Nat} {dv iv : Value} (hb : mayB ws.length ds.length = true) (wb : ∀ k, k < ws.length → 0 ≤ ws.getD k 0) (db : ∀ k, k < ds.length → 0 ≤ ds.getD k 0 ∧ ds.getD k 0 ≤ 255)
    (ib : ∀ k, k < ins.length → 0 ≤ ins.getD k 0 ∧ ins.getD k 0 ≤ 4294967295) (il : ins.length ≤ 100000)
    (h1 : w.heap.size ≤ g ∧ g < w1.heap.size ∧ Fr (fun _ => False) w w1 ∧ DecAt w1 g ws.length ws) (h2 : DataOk ds w1 dv w2) (h3 : InsOk ins w2 iv w3) :
    ∃ L, L.b = w3.heap.size ∧ L.code = ws.map decM ∧ L.dn = ds.length ∧ L.ins = ins ∧ At w.heap.size (w3.alloc (.cells (machL g ws.length dv iv).toArray 95)) L (.slice none 0 0) (initM ds) ∧ Wf w.heap.size L (.slice none 0 0) ∧
      Fr (fun _ => False) w (w3.alloc (.cells (machL g ws.length dv iv).toArray 95)) ∧ w.heap.size ≤ L.b ∧ w.heap.size ≤ L.db ∧ w.heap.size ≤ L.cb ∧ (∀ a, L.ia = some a → w.heap.size ≤ a.block) := by
  have hmay : 1 ≤ (ws.length : Int) ∧ (ws.length : Int) ≤ 32768 ∧ 4 ≤ (ds.length : Int) ∧ (ds.length : Int) ≤ 65536 ∧ (ds.length : Int) % 4 = 0 := by
    unfold mayB at hb
    split at hb; · cases hb
    split at hb; · cases hb
    split at hb; · cases hb
    split at hb; · cases hb
    have := beq_iff_eq.1 hb
    omega
  obtain ⟨m1, m2, m3, m4, m5⟩ := hmay
  obtain ⟨g1, g2, f1, hd⟩ := h1
  obtain ⟨dne, down, df⟩ := h2
  obtain ⟨gd, cd, rfl, gd1, gd2⟩ := own_form down dne
  have fd : Fr (fun _ => False) w1 w2 := Fr.of_by0 df
  have fi : Fr (fun _ => False) w2 w3 := by
    rcases h3 with ⟨_, _, rfl⟩ | ⟨_, _, hg⟩
    · exact Fr.refl _ _
    · exact Fr.of_by0 hg
  have fa : Fr (fun _ => False) w3 (w3.alloc (.cells (machL g ws.length (.slice (some ⟨gd, 0, none⟩) ds.length cd) iv).toArray 95)) := Fr.of_by0 (World.grownBy_alloc _ _ _)
  have hia : ∃ ia ic, iv = .slice ia ins.length ic ∧ (∀ a, ia = some a → w2.heap.size ≤ a.block ∧ a.block < w3.heap.size) ∧ ∀ k, k < ins.length → ∃ b o, ia = some ⟨b, o, none⟩ ∧ w3.cell? ⟨b, o + k, none⟩ = some (.int .u32 (ins.getD k 0)) := by
    rcases h3 with ⟨rfl, rfl, rfl⟩ | ⟨ine, iown, _⟩
    · exact ⟨none, 0, rfl, (fun a e => by cases e), (fun k hk => absurd hk (by simp))⟩
    · obtain ⟨gi, ci, rfl, q1, q2⟩ := own_form iown ine
      refine ⟨some ⟨gi, 0, none⟩, ci, rfl, (fun a e => by cases e; exact ⟨q1, q2⟩), fun k hk => ⟨gi, 0, rfl, ?_⟩⟩
      have := iown.cellAt k (by omega)
      rw [Nat.zero_add, this]
      simp [hk, List.getD_eq_getElem?_getD]
  obtain ⟨ia, ic, rfl, hib, hic⟩ := hia
  have s1 := fd.size
  have s2 := fi.size
  have fAll := (f1.trans fd).trans (fi.trans fa)
  have hrow : ∀ o v, (machL g ws.length (.slice (some ⟨gd, 0, none⟩) ds.length cd) (.slice ia ins.length ic)).toArray[o]? = some v → (w3.alloc (.cells (machL g ws.length (.slice (some ⟨gd, 0, none⟩) ds.length cd) (.slice ia ins.length ic)).toArray 95)).cell? ⟨w3.heap.size, o, none⟩ = some v := fun o v h => row_cell _ _ _ o v h
  have hcl : (ws.map decM).length = ws.length := by simp
  have hbyte : ∀ k, k < ds.length → (w3.alloc (.cells (machL g ws.length (.slice (some ⟨gd, 0, none⟩) ds.length cd) (.slice ia ins.length ic)).toArray 95)).cell? ⟨gd, 0 + k, none⟩ = some (.int .u8 (ds.getD k 0)) := fun k hk => by
    have := down.cellAt k (by omega)
    refine (fi.trans fa).cell ?_ id
    rw [Nat.zero_add, this]
    simp [hk, List.getD_eq_getElem?_getD]
  refine ⟨{ b := w3.heap.size, cb := g, co := 0, cc := ws.length, db := gd, dof := 0, dn := ds.length, dc := cd, ia := ia, ic := ic, code := ws.map decM, ins := ins }, rfl, rfl, rfl, rfl, ?_, ?_, fAll, by show w.heap.size ≤ w3.heap.size; have := f1.size; omega, by show w.heap.size ≤ gd; have := f1.size; omega, g1, fun a e => by have := (hib a e).1; have := f1.size; omega⟩
  · refine ⟨fun o ho => hrow o _ (machL_num _ _ _ _ ho), hrow 35 _ ?_, hrow 36 _ rfl, hrow 37 _ rfl, hrow 38 _ rfl, World.ownsRow_nil _ _ _ _, fun o ho => World.frozen?_alloc_at _ _ _ _ rfl, hbyte, fun k hk => ?_, fun k hk j hj => ?_, fun k hk => ?_, fun o _ => Int.le_refl _, fun o _ _ => by show (0 : Int) ≤ 4294967295; decide, fun k hk => db k hk, fAll.size, fun a e => Nat.lt_of_lt_of_le (hib a e).2 fa.size⟩
    · show _ = some (Value.slice (some ⟨g, 0, none⟩) (ws.map decM).length ws.length)
      rw [hcl]; rfl
    · have hk : k < ds.length := hk
      have h0 := down.frozenAt k
      have hc := down.cellAt k (by omega)
      have hx : ∃ x, w2.cell? ⟨gd, k, none⟩ = some x := by
        rw [hc]
        exact ⟨_, List.getElem?_eq_getElem (by simpa using hk)⟩
      obtain ⟨x, hx⟩ := hx
      show World.frozen? _ ⟨gd, 0 + k, none⟩ = false
      rw [Nat.zero_add, (fi.trans fa).frozen hx id]
      exact h0
    · have hk' : k < ws.length := by simpa using hk
      have := hd k hk' j hj
      show World.cell? _ ⟨g, 0 + k * 5 + j, none⟩ = _
      rw [Nat.zero_add]
      rw [((fd.trans (fi.trans fa)).cell this id)]
      simp [hk', List.getD_eq_getElem?_getD]
    · obtain ⟨b, o, e, hc⟩ := hic k hk
      exact ⟨b, o, e, fa.cell hc id⟩
  · refine ⟨by show gd ≠ w3.heap.size; omega, by show g ≠ w3.heap.size; omega, by show g ≠ gd; omega, fun a e => ⟨?_, ?_⟩, ⟨by show 4 ≤ ds.length; omega, by show ds.length ≤ 65536; omega, by show ds.length % 4 = 0; omega⟩, ⟨by show 1 ≤ (ws.map decM).length; omega, by show (ws.map decM).length ≤ 32768; omega⟩, il, (fun q e => by cases e), ib, ⟨by show 0 < (ws.map decM).length; omega, fun i hi => ?_⟩⟩
    · have := (hib a e).2
      show a.block ≠ w3.heap.size
      omega
    · have := (hib a e).1
      show a.block ≠ gd
      omega
    · obtain ⟨u, hu, rfl⟩ := List.mem_map.1 hi
      obtain ⟨k, hk, rfl⟩ := List.mem_iff_getElem.1 hu
      have := wb k hk
      rw [List.getD_eq_getElem?_getD, List.getElem?_eq_getElem hk] at this
      exact decM_ok this
end Go.Proofs.Ytipfefkddnogjaa
