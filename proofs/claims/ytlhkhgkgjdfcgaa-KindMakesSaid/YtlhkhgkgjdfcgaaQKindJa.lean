/-
  Tables of types (layer 8): an act that gives a struct its fields.
-/
import Derived.Test.YtlhkhgkgjdfcgaaQKindHa
import Derived.LoopTactic
import Derived.Deep.AppendLies
import Derived.Outline
namespace Go.Proofs.Ytlhkhgkgjdfcgaa
open Go.RowKit
set_option linter.unusedVariables false
set_option linter.unusedSimpArgs false
theorem info_rfield : (Try.prog.info? 57).map (fun i => (i.zero, i.size, i.bytes)) = some (some (.agg #[.string ⟨#[]⟩, .int .i64 0, .int .i64 0]), 3, 32) := by kernel_rfl
/-- The boxes while the fields are copied. -/
structure CopyW (F : Face) (w W : World) (x : ActV) : Prop where
  d : DoneW F F w W x
  o : ∀ j, w.heap.size ≤ j → F.off W j
theorem CopyW.start {F : Face} {w : World} (h : F.P w) (x : ActV) : CopyW F w ((w.alloc (.cells #[.int .i64 x.kind, .int .i64 x.n, .int .i64 x.long, .string x.name, .slice x.fa x.fn x.fc] 35)).alloc (.cells #[.int .i64 0, .slice none 0 0, .int .i64 0] 31)) x :=
  ⟨DoneW.start h x, fun j hj => F.offq h (fr_al (fr_al (Fr.refl _ _) _) _) (F.new w j h hj)⟩
theorem CopyW.grow {F : Face} {w W W' : World} {x : ActV} (h : CopyW F w W x) (hf : Fr (fun j => w.heap.size + 2 ≤ j) W W') : CopyW F w W' x := by
  have h1 := h.1
  have hk := F.keep W W' h1.p (hf.mono (fun j _ e => ⟨h.2 j (by omega), by have := h1.lo; omega⟩))
  have n0 : ¬ (fun j => w.heap.size + 2 ≤ j) w.heap.size := by simp
  have n1 : ¬ (fun j => w.heap.size + 2 ≤ j) (w.heap.size + 1) := by simp
  exact ⟨⟨hk.1, Nat.le_trans h1.sz hf.size, hf.cell h1.z0 n0, hf.cell h1.z1 n0, hf.cell h1.z2 n0, hf.cell h1.z3 n0, hf.cell h1.z4 n0,
    fun j hj => ⟨(h1.r j hj).1.elim fun y hy => ⟨y, hf.cell hy n1⟩, (h1.r j hj).1.elim fun y hy => (hf.frozen hy n1).trans (h1.r j hj).2⟩,
    hk.2 _ h1.o0, hk.2 _ h1.o1, h1.lo, Trn.write h1.p (hf.mono (fun j _ e => ⟨h.2 j (by omega), by have := h1.lo; omega, by omega⟩)) h1.tr⟩, fun j hj => hk.2 j (h.2 j hj)⟩
theorem fld_of_own {w : World} {base e : Nat} {v : Value} {n : Nat} {fs : List Fld} (h : w.ownsRow base e 3 v n (fs.flatMap Fld.vals)) (hn : n = fs.length) : ∃ a c, v = .slice a n c ∧ FldAt w a n fs ∧ ∀ g o, a = some ⟨g, o, none⟩ → base ≤ g ∧ g < w.heap.size := by
  by_cases hv : v = .slice none 0 0
  · have h0 : n = 0 := by
      rcases h.2 with ⟨_, e⟩ | ⟨g, c, cur, e, _⟩
      · exact e
      · rw [hv] at e; cases e
    exact ⟨none, 0, by rw [h0]; exact hv, ⟨hn, fun k hk => by omega⟩, fun g o e => by cases e⟩
  · obtain ⟨g, c, e1, hb, hg⟩ := own_form h hv
    refine ⟨some ⟨g, 0, none⟩, c, e1, ⟨hn, fun k hk => ⟨g, 0, rfl, fun j hj => ?_⟩⟩, fun g' o e => by injection e with e; injection e with e; omega⟩
    rw [e1] at h
    rw [Nat.zero_add, h.cellAt (k * 3 + j) (by have := fvals_len fs; omega)]
    exact fvals_get fs k hk j hj
theorem ftake_flat (fs : List Fld) (k : Nat) (f : Fld) (hk : k < fs.length) (hf : fs.getD k fld0 = f) : (fs.take (k + 1)).flatMap Fld.vals = (fs.take k).flatMap Fld.vals ++ f.vals := by
  have e1 : fs[k] = f := by rw [← hf, List.getD_eq_getElem?_getD, List.getElem?_eq_getElem hk]; rfl
  rw [List.take_add_one, List.getElem?_eq_getElem hk, List.flatMap_append, e1]
  simp
set_option maxRecDepth 100000 in
set_option maxHeartbeats 2000000 in
theorem done_struct {F : Face} {w : World} (hp : F.P w) (p : Value) (kd m long : Int) (hk0 : kd ≠ 0) (hk1 : kd ≠ 1) (hk2 : kd ≠ 2) (nm : ByteArray) (fa : Option Addr) (fn fc : Nat) {N E : Int} {a : Option Addr} {n c : Nat} {rs rs' : List RT} (h0 : RAt w a n rs) (hoa : F.offA w a rs.length)
    (fs : List Fld) (hfs : FldAt w fa fn fs) (hfo : F.offA w fa fs.length) (hfew : fs.length ≤ 1000) (Q : Int → Int → Face → Prop)
    (H1 : Hid (∀ W, F.P W → FldAt W fa fn fs → Calls Try.prog 28 #[p, .string nm, .slice fa fn fc] W fun r w' => ∃ A B G, r = .returned (.tuple #[.int .i64 A, .int .i64 B]) ∧ Q A B G ∧ G.lo = F.lo ∧ G.P w' ∧ Trn F G W w'))
    (H2 : Hid (∀ W av cv, RAt W a n rs → FldAt W av fn fs → Calls Try.prog 32 #[.slice a n c, .string nm, .slice av fn cv] W (MadeP W a rs N E rs'))) :
    Calls Try.prog 12 #[.agg #[.int .i64 kd, .int .i64 m, .int .i64 long, .string nm, .slice fa fn fc], p, .slice a n c] w fun r w' => ∃ A B G, Q A B G ∧ DoneP F G w A B N E rs' r w' := by
  obtain ⟨i0, hi0, hz0, hz1, hz2⟩ := info_parts info_rfield
  have kb0 : (kd == 0) = false := by rw [beq_eq_false_iff_ne]; exact hk0
  have kb1 : (kd == 1) = false := by rw [beq_eq_false_iff_ne]; exact hk1
  have kb2 : (kd == 2) = false := by rw [beq_eq_false_iff_ne]; exact hk2
  have HS := Lib.hid (CopyW.start hp ⟨kd, m, long, nm, fa, fn, fc⟩)
  have HC := Lib.hid hfs
  have hn := hfs.1
  have hne : fn ≤ 1000 := by omega
  have HN := Lib.hid hn
  have HFL : Hid (∀ W, DoneW F F w W ⟨kd, m, long, nm, fa, fn, fc⟩ → FldAt W fa fn fs) := Lib.hid (fun W h => h.tr.fld hfs hfo)
  have HR : Hid (∀ W G, DoneW F G w W ⟨kd, m, long, nm, fa, fn, fc⟩ → RAt W a n rs) := Lib.hid (fun W G h => h.tr.rat h0 hoa)
  have HE := Lib.hid (fun (A B : Int) (G : Face) (w2 w3 : World) (a' : Option Addr) (n' c' : Nat) (h2 : DoneW F G w w2 ⟨kd, m, long, nm, fa, fn, fc⟩) (hr : RAt w3 a' n' rs') (hf : Fr (fun _ => False) w2 w3) (hd : (a' = a ∧ rs' = rs) ∨ ∃ g, a' = some ⟨g, 0, none⟩ ∧ w2.heap.size ≤ g ∧ g < w3.heap.size) => done_end (A := A) (B := B) (N := N) (E := E) (c := c') h2 h0 hoa hr hf hd)
  have HW0 := Lib.hid (show F.lo ≤ w.heap.size from F.le w hp)
  clear hp h0 hoa hfs hfo hn hfew hk0 hk1 hk2
  go_enter Try.func12, Try.ntmps12
  go_wp2
  go_loopw [15, 16] (fun v q wl => ∃ k : Nat, q = .int .i64 k ∧ k ≤ fn ∧ Hid (CopyW F w wl ⟨kd, m, long, nm, fa, fn, fc⟩) ∧ Hid (wl.ownsRow (w.heap.size + 2) 57 3 v k ((fs.take k).flatMap Fld.vals))) (fun _ q _ => fn - (intOf q).toNat)
  case atStart => exact ⟨0, rfl, Nat.zero_le _, HS, Lib.hid (World.ownsRow_nil _ _ _ _)⟩
  case round =>
    obtain ⟨k, rfl, hk, HW, HO⟩ := hrel
    have hsz := HW.out.1.sz
    have z4 : wr.cell? ⟨w.heap.size, 4, none⟩ = some (.slice fa fn fc) := HW.out.1.z4
    have z3 : wr.cell? ⟨w.heap.size, 3, none⟩ = some (.string nm) := HW.out.1.z3
    by_cases hlt : k < fn
    · obtain ⟨g, o, ha, hcell⟩ := (HFL.out wr HW.out.1).2 k (by have := HN.out; omega)
      obtain ⟨f, hf⟩ : ∃ f, fs.getD k fld0 = f := ⟨_, rfl⟩
      rw [hf] at hcell
      have HE1 := Lib.hid hf
      have q0 : wr.cell? ⟨g, o + k * 3, none⟩ = some (.string f.name) := hcell 0 (by decide)
      have q1 : wr.cell? ⟨g, o + k * 3 + 1, none⟩ = some (.int .i64 f.type) := hcell 1 (by decide)
      have q2 : wr.cell? ⟨g, o + k * 3 + 2, none⟩ = some (.int .i64 f.off) := hcell 2 (by decide)
      have t0 : (0 : Int) ≤ k := by omega
      have t1 : (k : Int) < fn := by omega
      clear hcell hf
      subst ha
      go_wp2_with (at_builtin; (refine wpList_append_lies _ (by rfl) _ _ 44 (by rfl) (w.heap.size + 2) 57 i0 _ 3 32 Try.underlying44 hi0 hz0 hz1 hz2 rfl (by decide) u15 k _ (by rfl) (own_new HO.out (fr_al (Fr.refl _ _) _)) ⟨wr.heap.size, 0, none⟩ 1 1 [.string f.name, .int .i64 f.type, .int .i64 f.off] (by rfl) (by rfl) (World.news_of_block (cs := #[.string f.name, .int .i64 f.type, .int .i64 f.off]) (t := 57) (fr := (0, 0)) (heap_alloc_new _ _)) (by simp [Value.oneCell']) (by decide) (by unfold maxLen; omega) (by omega) (by simp; omega) _ rfl ?_; intro gg cap w5 hown5 hgrow5 hat5 hlt5; have HO5 := Lib.hid hown5; have HW5 := Lib.hid (HW.out.grow ((fr_al (Fr.refl (fun j => w.heap.size + 2 ≤ j) wr) (.cells #[.string f.name, .int .i64 f.type, .int .i64 f.off] 57)).trans ((Fr.of_by hgrow5).mono (fun j _ e => (HO.out.lt j e).1))))))
      go_roundw
      case rel => exact ⟨k + 1, by go_num, by omega, HW5, Lib.hid (by rw [ftake_flat fs k f (by have := HN.out; omega) HE1.out]; exact HO5.out)⟩
      case measure => simp [intOf]; omega
    · obtain rfl : fn = k := by omega
      have hown := HO.out
      rw [show fs.take fn = fs by rw [HN.out, List.take_length]] at hown
      obtain ⟨av, cv, hv, hfl, hav⟩ := fld_of_own hown HN.out
      subst hv
      have HT : Hid (∀ (G : Face) (w2 : World), G.lo = F.lo → G.P w2 → Trn F G wr w2 → DoneW F G w w2 ⟨kd, m, long, nm, fa, fn, fc⟩ ∧ FldAt w2 av fn fs) := Lib.hid (fun G w2 hl q t => ⟨HW.out.1.turn t q hl, t.fld hfl (fun g o e _ => ⟨HW.out.2 g (by have := (hav g o e).1; omega), (hav g o e).2⟩)⟩)
      clear hown hfl hav
      go_wp2_with (first
        | (go_at_call 28; (with_reducible refine (H1.out _ HW.out.1.p (HFL.out _ HW.out.1)).mono ?_); rintro r w2 ⟨A, B, G, rfl, hq, hlo, q2, t2⟩; have hd2 := HT.out G w2 hlo q2 t2; have HD2 := Lib.hid hd2; have HQ := Lib.hid hq; have y3 : w2.cell? ⟨w.heap.size, 3, none⟩ = some (.string nm) := hd2.1.z3; clear hd2 q2 t2 hq)
        | (go_at_call 32; (with_reducible refine (H2.out _ av cv (HR.out _ _ HD2.out.1) HD2.out.2).mono ?_); rintro r w3 ⟨a3, n3, c3, rfl, hr3, hf3, hd3⟩; have hq := HD2.out.1.quiet hf3; have HE3 := Lib.hid (HE.out A B G _ _ a3 n3 c3 HD2.out.1 hr3 hf3 hd3); obtain ⟨⟨b0, k0⟩, f0⟩ := hq.r 0 (by decide); obtain ⟨⟨b1, k1⟩, f1⟩ := hq.r 1 (by decide); obtain ⟨⟨b2, k2⟩, f2⟩ := hq.r 2 (by decide); clear hq hr3 hf3 hd3))
      exact bodyPost_ret (v := .tuple #[.int .i64 A, .int .i64 B, .agg #[.int .i64 N, .slice a3 n3 c3, .int .i64 E]]) (by simp [results, Try.results12, go_sem, set3' k0 k1 k2]) rfl ⟨A, B, G, HQ.out, HE3.out⟩
end Go.Proofs.Ytlhkhgkgjdfcgaa
