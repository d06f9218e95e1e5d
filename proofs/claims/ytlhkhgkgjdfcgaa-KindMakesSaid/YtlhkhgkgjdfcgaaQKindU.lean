/-
  Tables of types (layer 8): lay.
-/
import Derived.Test.YtlhkhgkgjdfcgaaQKindT
import Derived.LoopTactic
import Derived.Deep.AppendLies
import Derived.Deep.DeepMust
import Derived.Outline
namespace Go.Proofs.Ytlhkhgkgjdfcgaa
open Go.RowKit
set_option linter.unusedVariables false
set_option linter.unusedSimpArgs false
theorem info_field : (Try.prog.info? 53).map (fun i => (i.zero, i.size, i.bytes)) = some (some (.agg #[.string ⟨#[]⟩, .int .i64 0, .int .i64 0]), 3, 32) := by kernel_rfl
/-- What lay answers: the struct, whose fields lie in a row of the call's own. -/
def LayP (w : World) (nm : ByteArray) (es : List Ent) (fs : List Fld) (r : Ending) (w' : World) : Prop :=
  ∃ g c, r = .returned (.agg #[.int .i64 5, .int .i64 0, .int .i64 0, .string nm, .slice (some ⟨g, 0, none⟩) fs.length c, .int .i64 (upI (layS es fs fs.length).1 (layS es fs fs.length).2.1), .int .i64 (layS es fs fs.length).2.1]) ∧
    w'.ownsRow (w.heap.size + 3) 53 3 (.slice (some ⟨g, 0, none⟩) fs.length c) fs.length ((layS es fs fs.length).2.2.flatMap Fld.vals) ∧ Fr (fun _ => False) w w'
theorem own_kept {w w' : World} {base e size n : Nat} {v : Value} {xs : List Value} {F : Nat → Prop} (h : w.ownsRow base e size v n xs) (hf : Fr F w w') (hn : ∀ k, base ≤ k → ¬ F k) : w'.ownsRow base e size v n xs :=
  hf.owns h (fun k hk => by
    rcases h.2 with ⟨e1, _⟩ | ⟨g, c, cur, hv, hb, hg, _⟩
    · rw [e1] at hk; cases hk
    · rw [hv] at hk; injection hk with hk; subst hk; exact hn _ hb)
theorem own_set {w : World} {base e size n : Nat} {v : Value} {xs : List Value} (h : w.ownsRow base e size v n xs) {b : Nat} (hb : b < base) (o : Nat) (x : Value) : (w.setCell ⟨b, o, none⟩ x).ownsRow base e size v n xs :=
  own_kept h (Fr.setCell (F := fun j => j = b) w ⟨b, o, none⟩ x rfl) (fun j hj e => by omega)
theorem alloc_after_set (w3 : World) (a : Addr) (v : Value) (o : Obj) : ((w3.setCell a v).alloc o).heap[w3.heap.size]? = some o := by
  have h := heap_alloc_new (w3.setCell a v) o
  have e : (w3.setCell a v).heap.size = w3.heap.size := by simp [World.setCell]
  rw [e] at h
  exact h
theorem set7 {w : World} {g : Nat} {x0 x1 x2 x3 x4 x5 x6 : Value} (b0 : w.cell? ⟨g, 0, none⟩ = some x0) (b1 : w.cell? ⟨g, 1, none⟩ = some x1) (b2 : w.cell? ⟨g, 2, none⟩ = some x2) (b3 : w.cell? ⟨g, 3, none⟩ = some x3) (b4 : w.cell? ⟨g, 4, none⟩ = some x4) (b5 : w.cell? ⟨g, 5, none⟩ = some x5) (b6 : w.cell? ⟨g, 6, none⟩ = some x6) (v0 v1 v2 v3 v4 v5 v6 : Value) :
    (((((((w.setCell ⟨g, 0, none⟩ v0).setCell ⟨g, 1, none⟩ v1).setCell ⟨g, 2, none⟩ v2).setCell ⟨g, 3, none⟩ v3).setCell ⟨g, 4, none⟩ v4).setCell ⟨g, 5, none⟩ v5).setCell ⟨g, 6, none⟩ v6).cell? ⟨g, 0, none⟩ = some v0 ∧
    (((((((w.setCell ⟨g, 0, none⟩ v0).setCell ⟨g, 1, none⟩ v1).setCell ⟨g, 2, none⟩ v2).setCell ⟨g, 3, none⟩ v3).setCell ⟨g, 4, none⟩ v4).setCell ⟨g, 5, none⟩ v5).setCell ⟨g, 6, none⟩ v6).cell? ⟨g, 1, none⟩ = some v1 ∧
    (((((((w.setCell ⟨g, 0, none⟩ v0).setCell ⟨g, 1, none⟩ v1).setCell ⟨g, 2, none⟩ v2).setCell ⟨g, 3, none⟩ v3).setCell ⟨g, 4, none⟩ v4).setCell ⟨g, 5, none⟩ v5).setCell ⟨g, 6, none⟩ v6).cell? ⟨g, 2, none⟩ = some v2 ∧
    (((((((w.setCell ⟨g, 0, none⟩ v0).setCell ⟨g, 1, none⟩ v1).setCell ⟨g, 2, none⟩ v2).setCell ⟨g, 3, none⟩ v3).setCell ⟨g, 4, none⟩ v4).setCell ⟨g, 5, none⟩ v5).setCell ⟨g, 6, none⟩ v6).cell? ⟨g, 3, none⟩ = some v3 ∧
    (((((((w.setCell ⟨g, 0, none⟩ v0).setCell ⟨g, 1, none⟩ v1).setCell ⟨g, 2, none⟩ v2).setCell ⟨g, 3, none⟩ v3).setCell ⟨g, 4, none⟩ v4).setCell ⟨g, 5, none⟩ v5).setCell ⟨g, 6, none⟩ v6).cell? ⟨g, 4, none⟩ = some v4 ∧
    (((((((w.setCell ⟨g, 0, none⟩ v0).setCell ⟨g, 1, none⟩ v1).setCell ⟨g, 2, none⟩ v2).setCell ⟨g, 3, none⟩ v3).setCell ⟨g, 4, none⟩ v4).setCell ⟨g, 5, none⟩ v5).setCell ⟨g, 6, none⟩ v6).cell? ⟨g, 5, none⟩ = some v5 ∧
    (((((((w.setCell ⟨g, 0, none⟩ v0).setCell ⟨g, 1, none⟩ v1).setCell ⟨g, 2, none⟩ v2).setCell ⟨g, 3, none⟩ v3).setCell ⟨g, 4, none⟩ v4).setCell ⟨g, 5, none⟩ v5).setCell ⟨g, 6, none⟩ v6).cell? ⟨g, 6, none⟩ = some v6 := by
  refine ⟨?_, ?_, ?_, ?_, ?_, ?_, ?_⟩
  · exact set_keep (set_keep (set_keep (set_keep (set_keep (set_keep (World.cell?_setCell_same _ _ _ b0) (by decide)) (by decide)) (by decide)) (by decide)) (by decide)) (by decide)
  · exact set_keep (set_keep (set_keep (set_keep (set_keep (World.cell?_setCell_same _ _ _ (set_keep b1 (by decide))) (by decide)) (by decide)) (by decide)) (by decide)) (by decide)
  · exact set_keep (set_keep (set_keep (set_keep (World.cell?_setCell_same _ _ _ (set_keep (set_keep b2 (by decide)) (by decide))) (by decide)) (by decide)) (by decide)) (by decide)
  · exact set_keep (set_keep (set_keep (World.cell?_setCell_same _ _ _ (set_keep (set_keep (set_keep b3 (by decide)) (by decide)) (by decide))) (by decide)) (by decide)) (by decide)
  · exact set_keep (set_keep (World.cell?_setCell_same _ _ _ (set_keep (set_keep (set_keep (set_keep b4 (by decide)) (by decide)) (by decide)) (by decide))) (by decide)) (by decide)
  · exact set_keep (World.cell?_setCell_same _ _ _ (set_keep (set_keep (set_keep (set_keep (set_keep b5 (by decide)) (by decide)) (by decide)) (by decide)) (by decide))) (by decide)
  · exact World.cell?_setCell_same _ _ _ (set_keep (set_keep (set_keep (set_keep (set_keep (set_keep b6 (by decide)) (by decide)) (by decide)) (by decide)) (by decide)) (by decide))
set_option maxRecDepth 100000 in
set_option maxHeartbeats 8000000 in
theorem lay_of {base : Nat} {w : World} {tb : Nat} {v : Value} {es : List Ent} (h : TabAt base w tb v es) (nm : ByteArray) (a : Option Addr) (n c : Nat) (fs : List Fld) (hfs : FldAt w a n fs) (hlen : 1 ≤ fs.length ∧ fs.length ≤ 1000) (hs : Sized es fs) :
    Calls Try.prog 42 #[.pointer (some ⟨tb, 0, none⟩), .string nm, .slice a n c] w (LayP w nm es fs) := by
  obtain ⟨i0, hi0, hz0, hz1, hz2⟩ := info_parts info_field
  have HT := Lib.hid h
  have HC := Lib.hid hfs
  have HS := Lib.hid hs
  have hn := hfs.1
  have hne : n ≤ 1000 := by omega
  have HN := Lib.hid (show n = fs.length ∧ 1 ≤ fs.length from ⟨hn, hlen.1⟩)
  have HST := Lib.hid (LayW.start w nm)
  have HENT := Lib.hid (fun W (hW : Fr (fun _ => False) w W) ty => entry_at (h.kept hW id (fun _ _ => id)) ty)
  clear h hfs hs hn hlen
  go_enter Try.func42, Try.ntmps42
  go_wp2_with (go_at_call 51; (with_reducible refine (placer_of _).mono ?_); rintro r w2 ⟨rfl, rfl⟩)
  go_loopw [19] (fun q wr => ∃ (k : Nat) (v : Value), q = .int .i64 k ∧ k ≤ n ∧ LayW w wr nm v (layS es fs k).1 (layS es fs k).2.1 ∧ wr.ownsRow (w.heap.size + 3) 53 3 v k ((layS es fs k).2.2.flatMap Fld.vals)) (fun q _ => n - (intOf q).toNat)
  case atStart => exact ⟨0, .slice none 0 0, rfl, Nat.zero_le _, HST.out, World.ownsRow_nil _ _ _ _⟩
  case round =>
    obtain ⟨k, v, rfl, hk, hW, hown⟩ := hrel
    obtain ⟨b0, b1, b2, b3, b4, b5⟩ := layS_bound HS.out k (by have := HN.out; omega)
    have HW := Lib.hid hW
    have HO := Lib.hid hown
    by_cases hlt : k < n
    · obtain ⟨g, o, ha, hcell⟩ := HC.out.2 k (by have := HN.out; omega)
      have hsucc := layS_succ es fs k (by have := HN.out; omega)
      obtain ⟨⟨c0, c1⟩, c2, c3⟩ := HS.out _ (getD_mem (by have := HN.out; omega : k < fs.length))
      obtain ⟨f, hf⟩ : ∃ f, fs.getD k fld0 = f := ⟨_, rfl⟩
      rw [hf] at hcell c0 c1 c2 c3 hsucc
      obtain ⟨e, he⟩ : ∃ e, entF es f.type = e := ⟨_, rfl⟩
      obtain ⟨er, her⟩ : ∃ er, entE es f.type = er := ⟨_, rfl⟩
      rw [he] at c0 c1 c2 c3
      unfold layStep at hsucc
      rw [he] at hsucc
      generalize layS es fs k = S at hsucc HW HO b0 b1 b2 b3 b4 b5 hW hown
      have HE2 : Hid (∀ W, Fr (fun _ => False) w W → Calls Try.prog 33 #[.pointer (some ⟨tb, 0, none⟩), .int .i64 f.type] W fun r w' => r = .returned (.tuple #[.agg #[.int .i64 e.kind, .int .i64 e.elem, .int .i64 e.len, .string e.name, .slice e.fa e.fn e.fc, .int .i64 e.size, .int .i64 e.align], .int .i64 er]) ∧ Fr (fun _ => False) W w') :=
        Lib.hid (fun W hW => by have := HENT.out W hW f.type; rw [he, her] at this; exact this)
      have HJ0 : Hid (∀ j, j < 3 → wr.cell? ⟨g, o + (k * 3 + j), none⟩ = f.vals[j]?) := Lib.hid (fun j hj => by
        have h1 : ∃ x, f.vals[j]? = some x := ⟨_, List.getElem?_eq_getElem (by simpa [Fld.vals] using hj)⟩
        obtain ⟨x, h1⟩ := h1
        rw [h1]
        exact HW.out.fr.cell ((hcell j hj).trans h1) id)
      have q0 : wr.cell? ⟨g, o + k * 3, none⟩ = some (.string f.name) := HJ0.out 0 (by decide)
      have q1 : wr.cell? ⟨g, o + k * 3 + 1, none⟩ = some (.int .i64 f.type) := HJ0.out 1 (by decide)
      have q2 : wr.cell? ⟨g, o + k * 3 + 2, none⟩ = some (.int .i64 f.off) := HJ0.out 2 (by decide)
      have t0 : (0 : Int) ≤ k := by omega
      have t1 : (k : Int) < n := by omega
      have HA := Lib.hid ha
      have HP : Hid (∀ w2, Fr (fun _ => False) (wr.alloc (.cells #[.string f.name, .int .i64 f.type, .int .i64 f.off] 53)) w2 → ∀ (r : Ending) (w3 : World), (r = .returned (.int .i64 (upI S.1 e.align)) ∧ w3 = (w2.alloc (.cells #[.int .i64 e.kind, .int .i64 e.elem, .int .i64 e.len, .string e.name, .slice e.fa e.fn e.fc, .int .i64 e.size, .int .i64 e.align] 72)).setCell ⟨w.heap.size + 1 + 1, 0, none⟩ (.int .i64 (upI S.1 e.align + e.size))) →
          LayW w w3 nm v (upI S.1 e.align + e.size) S.2.1 ∧ w3.ownsRow (w.heap.size + 3) 53 3 v k (S.2.2.flatMap Fld.vals) ∧ (w3.cell? ⟨wr.heap.size, 0, none⟩ = some (.string f.name) ∧ w3.cell? ⟨wr.heap.size, 1, none⟩ = some (.int .i64 f.type) ∧ w3.cell? ⟨wr.heap.size, 2, none⟩ = some (.int .i64 f.off) ∧ w3.frozen? ⟨wr.heap.size, 2, none⟩ = false) ∧
          w3.cell? ⟨w2.heap.size, 6, none⟩ = some (.int .i64 e.align) ∧ wr.heap.size < w2.heap.size ∧ w2.heap.size < w3.heap.size) := Lib.hid (fun w2 hf2 r w3 hr => by
        obtain ⟨_, rfl⟩ := hr
        have F1 : Fr (fun _ => False) wr w2 := (fr_al (Fr.refl _ _) _).trans hf2
        have F2 := fr_al hf2 (.cells #[.int .i64 e.kind, .int .i64 e.elem, .int .i64 e.len, .string e.name, .slice e.fa e.fn e.fc, .int .i64 e.size, .int .i64 e.align] 72)
        have F3 : Fr (fun _ => False) wr _ := (fr_al (Fr.refl _ _) (.cells #[.string f.name, .int .i64 f.type, .int .i64 f.off] 53)).trans F2
        have L2 := HW.out.kept F3 (fun _ _ => id)
        have s2 := hf2.size
        have s0 := HW.out.sz
        simp at s2
        have c2 := fcell w2 #[.int .i64 e.kind, .int .i64 e.elem, .int .i64 e.len, .string e.name, .slice e.fa e.fn e.fc, .int .i64 e.size, .int .i64 e.align] 72 6 _ rfl
        have kf : ∀ j x, (#[Value.string f.name, .int .i64 f.type, .int .i64 f.off] : Array Value)[j]? = some x → (w2.alloc (.cells #[.int .i64 e.kind, .int .i64 e.elem, .int .i64 e.len, .string e.name, .slice e.fa e.fn e.fc, .int .i64 e.size, .int .i64 e.align] 72)).cell? ⟨wr.heap.size, j, none⟩ = some x := fun j x hx => F2.cell (fcell wr _ _ j _ hx) id
        have ff : (w2.alloc (.cells #[.int .i64 e.kind, .int .i64 e.elem, .int .i64 e.len, .string e.name, .slice e.fa e.fn e.fc, .int .i64 e.size, .int .i64 e.align] 72)).frozen? ⟨wr.heap.size, 2, none⟩ = false := (F2.frozen (fcell wr _ _ 2 _ rfl) id).trans (World.frozen?_alloc_new _ _ _ _)
        exact ⟨L2.setP _, own_kept (own_kept HO.out F3 (fun _ _ => id)) (Fr.setCell (F := fun j => j = w.heap.size + 1 + 1) _ ⟨w.heap.size + 1 + 1, 0, none⟩ _ rfl) (fun j hj e => by omega), ⟨cell_far (kf 0 _ rfl) (by omega), cell_far (kf 1 _ rfl) (by omega), cell_far (kf 2 _ rfl) (by omega), (World.frozen?_setCell _ _ _ _).trans ff⟩, cell_far c2 (by omega), by omega, by simp [World.setCell]⟩)
      have HPL : Hid (∀ w2, Fr (fun _ => False) (wr.alloc (.cells #[.string f.name, .int .i64 f.type, .int .i64 f.off] 53)) w2 → Calls Try.prog 53 #[.int .i64 e.size, .int .i64 e.align, .pointer (some ⟨w.heap.size + 1 + 1, 0, none⟩)] (w2.alloc (.cells #[.int .i64 e.kind, .int .i64 e.elem, .int .i64 e.len, .string e.name, .slice e.fa e.fn e.fc, .int .i64 e.size, .int .i64 e.align] 72)) fun r w3 => r = .returned (.int .i64 (upI S.1 e.align)) ∧ w3 = (w2.alloc (.cells #[.int .i64 e.kind, .int .i64 e.elem, .int .i64 e.len, .string e.name, .slice e.fa e.fn e.fc, .int .i64 e.size, .int .i64 e.align] 72)).setCell ⟨w.heap.size + 1 + 1, 0, none⟩ (.int .i64 (upI S.1 e.align + e.size))) := Lib.hid (fun w2 hf2 => by
        have L2 := HW.out.kept ((fr_al (Fr.refl _ _) (.cells #[.string f.name, .int .i64 f.type, .int .i64 f.off] 53)).trans (fr_al hf2 (.cells #[.int .i64 e.kind, .int .i64 e.elem, .int .i64 e.len, .string e.name, .slice e.fa e.fn e.fc, .int .i64 e.size, .int .i64 e.align] 72))) (fun _ _ => id)
        exact placer_step (w.heap.size + 1 + 1) S.1 e.size e.align _ L2.p0 L2.pf ⟨b0, by omega⟩ ⟨c2, by omega⟩ ⟨by omega, by omega⟩)
      have HQ5 : Hid (∀ (w2 w3 w5 : World), LayW w w3 nm v (upI S.1 e.align + e.size) S.2.1 → w3.cell? ⟨w2.heap.size, 6, none⟩ = some (.int .i64 e.align) → (wr.heap.size < w2.heap.size ∧ w2.heap.size < w3.heap.size) → ((w3.setCell ⟨wr.heap.size, 2, none⟩ (.int .i64 (upI S.1 e.align))).alloc (.cells #[.string f.name, .int .i64 f.type, .int .i64 (upI S.1 e.align)] 53)).grownBy w5 v.ownBlock →
          LayW w w5 nm v (upI S.1 e.align + e.size) S.2.1 ∧ w5.cell? ⟨w2.heap.size, 6, none⟩ = some (.int .i64 e.align) ∧ w2.heap.size < w5.heap.size) := Lib.hid (fun w2 w3 w5 L3 p6 hs hg => by
        have s0 := HW.out.sz
        have FA : Fr (fun j => j = wr.heap.size) w3 (w3.setCell ⟨wr.heap.size, 2, none⟩ (.int .i64 (upI S.1 e.align))) := Fr.setCell w3 ⟨wr.heap.size, 2, none⟩ _ rfl
        have FB := fr_al (Fr.refl (fun _ => False) (w3.setCell ⟨wr.heap.size, 2, none⟩ (.int .i64 (upI S.1 e.align)))) (.cells #[.string f.name, .int .i64 f.type, .int .i64 (upI S.1 e.align)] 53)
        have FC := Fr.of_by hg
        have FD := (FA.mono (G := fun j => j = wr.heap.size ∨ v.ownBlock = some j) (fun j _ e => .inl e)).trans ((FB.mono (fun j _ e => e.elim)).trans (FC.mono (fun j _ e => .inr e)))
        refine ⟨L3.kept FD (fun j hj e => ?_), FD.cell p6 (fun e => ?_), ?_⟩
        · rcases e with e | e
          · omega
          · have := (HO.out.lt j e).1; omega
        · rcases e with e | e
          · simp at e; omega
          · have := (HO.out.lt _ e).2; simp at this; omega
        · have := FD.size; omega)
      have hsz0 := hW.sz
      obtain ⟨at', hat'⟩ : ∃ at', upI S.1 e.align = at' := ⟨_, rfl⟩
      rw [hat'] at HP HPL HQ5 hsucc
      have HSUC := Lib.hid hsucc
      clear hcell hf he her hsucc hat' hW hown b0 b1 b2 b3 b4 b5
      rw [ha]
      go_wp2_with (first
        | (go_at_call 33; (with_reducible refine (HE2.out _ (fr_al HW.out.fr _)).mono ?_); rintro r w2 ⟨rfl, hf2⟩; have HV2 := Lib.hid hf2; clear hf2)
        | (go_at_call 53; ((with_reducible refine (HPL.out _ HV2.out).mono ?_); intro r w3 hr; obtain ⟨L3, O3, ⟨y0, y1, y2, yf⟩, p6, s2, s3⟩ := HP.out _ HV2.out _ _ hr; obtain ⟨rfl, hw3⟩ := hr; clear hw3; have hv4 : ∀ x, (w3.setCell ⟨wr.heap.size, 2, none⟩ x).cell? ⟨w.heap.size + 1, 4, none⟩ = some v := fun x => cell_far L3.x4 (by omega); have HL3 := Lib.hid L3; have HO3 := Lib.hid O3; have HP6 := Lib.hid p6; have HS3 := Lib.hid (show wr.heap.size < w2.heap.size ∧ w2.heap.size < w3.heap.size from ⟨s2, s3⟩); clear L3 O3 p6; have HB4 : Hid (Fr (fun j => j = wr.heap.size) w3 (w3.setCell ⟨wr.heap.size, 2, none⟩ (.int .i64 at'))) := Lib.hid (Fr.setCell w3 ⟨wr.heap.size, 2, none⟩ _ rfl); have HO4 := Lib.hid (own_kept (HB4.out.owns HO3.out (fun j hj e => by have := (HO.out.lt j hj).2; omega)) (fr_al (Fr.refl (fun _ => False) _) (.cells #[.string f.name, .int .i64 f.type, .int .i64 at'] 53)) (fun _ _ => id))))
        | (at_builtin; (refine wpList_append_lies _ (by rfl) _ _ 33 (by rfl) (w.heap.size + 3) 53 i0 _ 3 32 Try.underlying33 hi0 hz0 hz1 hz2 rfl (by decide) v k _ (by rfl) HO4.out ⟨w3.heap.size, 0, none⟩ 1 1 [.string f.name, .int .i64 f.type, .int .i64 at'] (by rfl) (by rfl) (World.news_of_block (cs := #[.string f.name, .int .i64 f.type, .int .i64 at']) (t := 53) (fr := (0, 0)) (alloc_after_set _ _ _ _)) (by simp [Value.oneCell']) (by decide) (by unfold maxLen; omega) (by omega) (by simp; omega) _ rfl ?_; intro gg cap w5 hown5 hgrow5 hat5 hlt5; obtain ⟨L5, p6, hw5⟩ := HQ5.out _ _ w5 HL3.out HP6.out HS3.out hgrow5; have HL5 := Lib.hid L5; have y4 := L5.x4; have yf4 := L5.xf 4 (by decide); have yf6 := L5.xf 6 (by decide); have hq6 : ∀ x, (w5.setCell ⟨w.heap.size + 1, 4, none⟩ x).cell? ⟨w.heap.size + 1, 6, none⟩ = some (.int .i64 S.2.1) := fun x => set_keep L5.x6 (by decide); have hp6 : ∀ x, (w5.setCell ⟨w.heap.size + 1, 4, none⟩ x).cell? ⟨w2.heap.size, 6, none⟩ = some (.int .i64 e.align) := fun x => cell_far p6 (by omega); have HO5 := Lib.hid hown5; clear L5 p6 hown5 hgrow5 hat5)))
      refine ⟨⟨k + 1, .slice (some ⟨gg, 0, none⟩) (k + 1) cap, by push_cast; rfl, by omega, ?_, ?_⟩, by simp [intOf]; omega⟩
      · rw [HSUC.out]
        exact (HL5.out.setV _).setA _
      · rw [HSUC.out]
        have e1 : ∀ (l : List Fld) (y : Fld), (l ++ [y]).flatMap Fld.vals = l.flatMap Fld.vals ++ y.vals := fun l y => by simp [List.flatMap_append]
        rw [e1]
        exact own_kept (own_kept HO5.out (Fr.setCell (F := fun j => j = w.heap.size + 1) w5 ⟨w.heap.size + 1, 4, none⟩ _ rfl) (fun j hj e => by omega)) (Fr.setCell (F := fun j => j = w.heap.size + 1) _ ⟨w.heap.size + 1, 6, none⟩ _ rfl) (fun j hj e => by omega)
    · obtain rfl : n = k := by omega
      have hv : ∃ g cc, v = .slice (some ⟨g, 0, none⟩) n cc := by
        obtain ⟨g, cc, hv, _⟩ := own_form hown (fun e => by
          rcases hown.2 with ⟨_, e2⟩ | ⟨g, cc, cur, e2, _⟩
          · have := HN.out; omega
          · rw [e2] at e; cases e)
        exact ⟨g, cc, hv⟩
      obtain ⟨gg, cc, hv⟩ := hv
      subst hv
      have hal := b4 (by have := HN.out; omega)
      have HPLF : Hid (Calls Try.prog 53 #[.int .i64 0, .int .i64 (layS es fs n).2.1, .pointer (some ⟨w.heap.size + 1 + 1, 0, none⟩)] wr fun r w3 => r = .returned (.int .i64 (upI (layS es fs n).1 (layS es fs n).2.1)) ∧ w3 = wr.setCell ⟨w.heap.size + 1 + 1, 0, none⟩ (.int .i64 (upI (layS es fs n).1 (layS es fs n).2.1 + 0))) :=
        Lib.hid (placer_step (w.heap.size + 1 + 1) _ 0 _ wr hW.p0 hW.pf ⟨b0, by omega⟩ ⟨hal, by omega⟩ ⟨by decide, by decide⟩)
      have HEND : Hid (∀ (z al : Int) (w' : World), z = upI (layS es fs n).1 (layS es fs n).2.1 → al = (layS es fs n).2.1 → w'.ownsRow (w.heap.size + 3) 53 3 (.slice (some ⟨gg, 0, none⟩) n cc) n ((layS es fs n).2.2.flatMap Fld.vals) → Fr (fun _ => False) w w' →
          LayP w nm es fs (.returned (.agg #[.int .i64 5, .int .i64 0, .int .i64 0, .string nm, .slice (some ⟨gg, 0, none⟩) n cc, .int .i64 z, .int .i64 al])) w') := Lib.hid (fun z al w' hz ha ho hf => by
        have hn := HN.out.1
        rw [hn] at ho hz ha ⊢
        rw [hz, ha]
        exact ⟨gg, cc, rfl, ho, hf⟩)
      obtain ⟨z, hz⟩ : ∃ z, upI (layS es fs n).1 (layS es fs n).2.1 = z := ⟨_, rfl⟩
      rw [hz] at HPLF
      have x6 := hW.x6
      have HR : Hid (∀ w3, w3 = wr.setCell ⟨w.heap.size + 1 + 1, 0, none⟩ (.int .i64 (z + 0)) → LayW w w3 nm (.slice (some ⟨gg, 0, none⟩) n cc) (z + 0) (layS es fs n).2.1 ∧ w3.ownsRow (w.heap.size + 3) 53 3 (.slice (some ⟨gg, 0, none⟩) n cc) n ((layS es fs n).2.2.flatMap Fld.vals)) :=
        Lib.hid (fun w3 e => by rw [e]; exact ⟨HW.out.setP _, own_kept HO.out (Fr.setCell (F := fun j => j = w.heap.size + 1 + 1) wr ⟨w.heap.size + 1 + 1, 0, none⟩ _ rfl) (fun j hj e => by omega)⟩)
      generalize hal' : (layS es fs n).2.1 = al at HPLF x6 HR
      have HZ := Lib.hid hz.symm
      have HAL := Lib.hid hal'.symm
      clear hW hown hz hal' hal b0 b1 b2 b3 b4 b5
      go_wp2_with (go_at_call 53; (with_reducible refine HPLF.out.mono ?_); intro r w3 hr; obtain ⟨rfl, hw3⟩ := hr; obtain ⟨L3, O3⟩ := HR.out _ hw3; clear hw3; have HL3 := Lib.hid L3; have HO3 := Lib.hid O3; have y5 := L3.x5; have yf5 := L3.xf 5 (by decide); have m0 : ∀ x, (w3.setCell ⟨w.heap.size + 1, 5, none⟩ x).cell? ⟨w.heap.size + 1, 0, none⟩ = some (.int .i64 5) := fun x => set_keep L3.x0 (by decide); have m1 : ∀ x, (w3.setCell ⟨w.heap.size + 1, 5, none⟩ x).cell? ⟨w.heap.size + 1, 1, none⟩ = some (.int .i64 0) := fun x => set_keep L3.x1 (by decide); have m2 : ∀ x, (w3.setCell ⟨w.heap.size + 1, 5, none⟩ x).cell? ⟨w.heap.size + 1, 2, none⟩ = some (.int .i64 0) := fun x => set_keep L3.x2 (by decide); have m3 : ∀ x, (w3.setCell ⟨w.heap.size + 1, 5, none⟩ x).cell? ⟨w.heap.size + 1, 3, none⟩ = some (.string nm) := fun x => set_keep L3.x3 (by decide); have m4 : ∀ x, (w3.setCell ⟨w.heap.size + 1, 5, none⟩ x).cell? ⟨w.heap.size + 1, 4, none⟩ = some (.slice (some ⟨gg, 0, none⟩) n cc) := fun x => set_keep L3.x4 (by decide); have m6 : ∀ x, (w3.setCell ⟨w.heap.size + 1, 5, none⟩ x).cell? ⟨w.heap.size + 1, 6, none⟩ = some (.int .i64 al) := fun x => set_keep L3.x6 (by decide); obtain ⟨⟨k0, r0⟩, f0⟩ := L3.r 0 (by decide); obtain ⟨⟨k1, r1⟩, f1⟩ := L3.r 1 (by decide); obtain ⟨⟨k2, r2⟩, f2⟩ := L3.r 2 (by decide); obtain ⟨⟨k3, r3⟩, f3⟩ := L3.r 3 (by decide); obtain ⟨⟨k4, r4⟩, f4⟩ := L3.r 4 (by decide); obtain ⟨⟨k5, r5⟩, f5⟩ := L3.r 5 (by decide); obtain ⟨⟨k6, r6⟩, f6⟩ := L3.r 6 (by decide); have n0 : ∀ x, (w3.setCell ⟨w.heap.size + 1, 5, none⟩ x).cell? ⟨w.heap.size, 0, none⟩ = some k0 := fun x => cell_far r0 (by omega); have n1 : ∀ x, (w3.setCell ⟨w.heap.size + 1, 5, none⟩ x).cell? ⟨w.heap.size, 1, none⟩ = some k1 := fun x => cell_far r1 (by omega); have n2 : ∀ x, (w3.setCell ⟨w.heap.size + 1, 5, none⟩ x).cell? ⟨w.heap.size, 2, none⟩ = some k2 := fun x => cell_far r2 (by omega); have n3 : ∀ x, (w3.setCell ⟨w.heap.size + 1, 5, none⟩ x).cell? ⟨w.heap.size, 3, none⟩ = some k3 := fun x => cell_far r3 (by omega); have n4 : ∀ x, (w3.setCell ⟨w.heap.size + 1, 5, none⟩ x).cell? ⟨w.heap.size, 4, none⟩ = some k4 := fun x => cell_far r4 (by omega); have n5 : ∀ x, (w3.setCell ⟨w.heap.size + 1, 5, none⟩ x).cell? ⟨w.heap.size, 5, none⟩ = some k5 := fun x => cell_far r5 (by omega); have n6 : ∀ x, (w3.setCell ⟨w.heap.size + 1, 5, none⟩ x).cell? ⟨w.heap.size, 6, none⟩ = some k6 := fun x => cell_far r6 (by omega); have sz3 : w.heap.size + 1 < w3.heap.size := (by have := L3.sz; omega); clear L3 O3 r0 r1 r2 r3 r4 r5 r6)
      exact bodyPost_ret (v := .agg #[.int .i64 5, .int .i64 0, .int .i64 0, .string nm, .slice (some ⟨gg, 0, none⟩) n cc, .int .i64 z, .int .i64 al]) (by simp [results, Try.results42, go_sem, set7 (n0 _) (n1 _) (n2 _) (n3 _) (n4 _) (n5 _) (n6 _)]) rfl (HEND.out z al _ HZ.out HAL.out (own_set (own_set (own_set (own_set (own_set (own_set (own_set (own_set HO3.out (by omega) _ _) (by omega) _ _) (by omega) _ _) (by omega) _ _) (by omega) _ _) (by omega) _ _) (by omega) _ _) (by omega) _ _) (fr_set (fr_set (fr_set (fr_set (fr_set (fr_set (fr_set (fr_set HL3.out.fr (by omega) _ _) (Nat.le_refl _) _ _) (Nat.le_refl _) _ _) (Nat.le_refl _) _ _) (Nat.le_refl _) _ _) (Nat.le_refl _) _ _) (Nat.le_refl _) _ _) (Nat.le_refl _) _ _))
end Go.Proofs.Ytlhkhgkgjdfcgaa
