/-
  Tables of types (layer 8): an array's and a struct's act, where the document's table is one of any length.
-/
import Derived.Test.YtlhkhgkgjdfcgaaQKindFb
import Derived.Deep.AppendLies
import Derived.LoopTactic
import Derived.Outline
namespace Go.Proofs.Ytlhkhgkgjdfcgaa
open Go.RowKit
set_option linter.unusedVariables false
set_option linter.unusedSimpArgs false
set_option maxRecDepth 100000 in
set_option maxHeartbeats 1000000 in
theorem done_arrayK {F G : Face} {w : World} (hp : F.P w) (hl : G.lo = F.lo) (p : Value) (m long : Int) (nm : ByteArray) (fa : Option Addr) (fn fc : Nat) {A B N E : Int} {a : Option Addr} {n c : Nat} {rs rs' : List RT} (h0 : RAt w a n rs) (hoa : F.offA w a rs.length)
    (H1 : Hid (∀ W, F.P W → Calls Try.prog 26 #[p, .int .i64 m, .int .i64 long] W fun r w' => r = .returned (.tuple #[.int .i64 A, .int .i64 B]) ∧ G.P w' ∧ Trn F G W w'))
    (K : World → Prop) (HK : Hid (∀ W, Trn F G w W → K W)) (H2 : Hid (∀ W, K W → Calls Try.prog 30 #[.slice a n c, .int .i64 m, .int .i64 long] W (MadeP W a rs N E rs'))) :
    Calls Try.prog 12 #[.agg #[.int .i64 1, .int .i64 m, .int .i64 long, .string nm, .slice fa fn fc], p, .slice a n c] w (DoneP F G w A B N E rs') := by
  have HS := Lib.hid (DoneW.start hp ⟨1, m, long, nm, fa, fn, fc⟩)
  have HT : Hid (∀ W W', DoneW F F w W ⟨1, m, long, nm, fa, fn, fc⟩ → G.P W' → Trn F G W W' → DoneW F G w W' ⟨1, m, long, nm, fa, fn, fc⟩) := Lib.hid (fun W W' h q t => h.turn t q hl)
  have HR : Hid (∀ W, DoneW F G w W ⟨1, m, long, nm, fa, fn, fc⟩ → K W) := Lib.hid (fun W h => HK.out W h.tr)
  have HE := Lib.hid (fun (w2 w3 : World) (a' : Option Addr) (n' c' : Nat) (h2 : DoneW F G w w2 ⟨1, m, long, nm, fa, fn, fc⟩) (hr : RAt w3 a' n' rs') (hf : Fr (fun _ => False) w2 w3) (hd : (a' = a ∧ rs' = rs) ∨ ∃ g, a' = some ⟨g, 0, none⟩ ∧ w2.heap.size ≤ g ∧ g < w3.heap.size) => done_end (A := A) (B := B) (N := N) (E := E) (c := c') h2 h0 hoa hr hf hd)
  clear hp hl h0 hoa HK
  go_enter Try.func12, Try.ntmps12
  go_wp2_with (first
    | (go_at_call 26; (with_reducible refine (H1.out _ HS.out.p).mono ?_); rintro r w2 ⟨rfl, q2, t2⟩; have hd2 := HT.out _ _ HS.out q2 t2; have HD2 := Lib.hid hd2; have z1 := hd2.z1; have z2 := hd2.z2; have z3 := hd2.z3; clear hd2 q2 t2)
    | (go_at_call 30; (with_reducible refine (H2.out _ (HR.out _ HD2.out)).mono ?_); rintro r w3 ⟨a3, n3, c3, rfl, hr3, hf3, hd3⟩; have hq := HD2.out.quiet hf3; have HE3 := Lib.hid (HE.out _ _ a3 n3 c3 HD2.out hr3 hf3 hd3); obtain ⟨⟨b0, k0⟩, f0⟩ := hq.r 0 (by decide); obtain ⟨⟨b1, k1⟩, f1⟩ := hq.r 1 (by decide); obtain ⟨⟨b2, k2⟩, f2⟩ := hq.r 2 (by decide); clear hq hr3 hf3 hd3))
  exact bodyPost_ret (v := .tuple #[.int .i64 A, .int .i64 B, .agg #[.int .i64 N, .slice a3 n3 c3, .int .i64 E]]) (by simp [results, Try.results12, go_sem, set3' k0 k1 k2]) rfl HE3.out
/-- What the document's Struct leaves of its new fields, and what the act leaves of them. -/
def LaidS (ok : Prop) (X : Option Addr → Nat → List RT) (own : List Fld) (q : Nat) (rs : List RT) (W : World) (rs' : List RT) (w' : World) : Prop :=
  (¬ ok ∧ rs' = rs) ∨ (ok ∧ ∃ fa fc, rs' = X fa fc ∧ FldAt w' fa q own ∧ ∀ g o, fa = some ⟨g, o, none⟩ → W.heap.size ≤ g)
def LaidT (ok : Prop) (X : Option Addr → Nat → List RT) (own : List Fld) (q : Nat) (rs : List RT) (G : Face) (rs' : List RT) (w' : World) : Prop :=
  (¬ ok ∧ rs' = rs) ∨ (ok ∧ ∃ fa fc, rs' = X fa fc ∧ FldAt w' fa q own ∧ G.offA w' fa own.length)
theorem laid_end {ok : Prop} {X : Option Addr → Nat → List RT} {own : List Fld} {q : Nat} {rs rs' : List RT} {F G : Face} {w w2 w3 : World} {x : ActV} {A B N E : Int} {a : Option Addr} {n c : Nat} (h2 : DoneW F G w w2 x) (hf : Fr (fun _ => False) w2 w3) (hS : LaidS ok X own q rs w2 rs' w3) :
    LaidT ok X own q rs G rs' (((w3.setCell ⟨w.heap.size + 1, 0, none⟩ (.int .i64 N)).setCell ⟨w.heap.size + 1, 1, none⟩ (.slice a n c)).setCell ⟨w.heap.size + 1, 2, none⟩ (.int .i64 E)) := by
  have h3 := h2.quiet hf
  obtain ⟨w4, h4⟩ : ∃ w4, w4 = ((w3.setCell ⟨w.heap.size + 1, 0, none⟩ (.int .i64 N)).setCell ⟨w.heap.size + 1, 1, none⟩ (.slice a n c)).setCell ⟨w.heap.size + 1, 2, none⟩ (.int .i64 E) := ⟨_, rfl⟩
  have hq : (fun j => j = w.heap.size + 1) (w.heap.size + 1) := rfl
  have hw : Fr (fun j => j = w.heap.size + 1) w3 w4 := by rw [h4]; exact fr_setF (fr_setF (fr_setF (Fr.refl (fun j => j = w.heap.size + 1) w3) hq _ _) hq _ _) hq _ _
  rw [← h4]
  have hk := G.keep w3 w4 h3.p (hw.mono (fun j _ e => by rw [e]; exact ⟨h3.o1, by have := h3.lo; omega⟩))
  rcases hS with hS | ⟨ho, fa, fc, e, hfl, hb⟩
  · exact .inl hS
  · refine .inr ⟨ho, fa, fc, e, hfl.kept hw (fun g o e1 _ hh => ?_), fun g o e1 hn => ?_⟩
    · have := hb g o e1; have := h2.sz; omega
    · exact ⟨hk.2 _ (G.offq h2.p hf (G.new w2 g h2.p (hb g o e1))), Nat.lt_of_lt_of_le (fld_lt hfl g o e1 hn) hw.size⟩
set_option maxRecDepth 100000 in
set_option maxHeartbeats 2000000 in
theorem done_structK {F : Face} {w : World} (hp : F.P w) (p : Value) (kd m long : Int) (hk0 : kd ≠ 0) (hk1 : kd ≠ 1) (hk2 : kd ≠ 2) (nm : ByteArray) (fa : Option Addr) (fn fc : Nat) {N E : Int} {a : Option Addr} {n c : Nat} {rs : List RT} (h0 : RAt w a n rs) (hoa : F.offA w a rs.length)
    (fs : List Fld) (hfs : FldAt w fa fn fs) (hfo : F.offA w fa fs.length) (hfew : fs.length ≤ 1000) (Q : Int → Int → Face → Prop)
    (H1 : Hid (∀ W, F.P W → FldAt W fa fn fs → Calls Try.prog 28 #[p, .string nm, .slice fa fn fc] W fun r w' => ∃ A B G, r = .returned (.tuple #[.int .i64 A, .int .i64 B]) ∧ Q A B G ∧ G.lo = F.lo ∧ G.P w' ∧ Trn F G W w'))
    (K : World → Prop) (HK : Hid (∀ G W, Trn F G w W → K W)) (ok : Prop) (X : Option Addr → Nat → List RT) (own : List Fld) (q : Nat)
    (H2 : Hid (∀ W av cv, K W → FldAt W av fn fs → Calls Try.prog 32 #[.slice a n c, .string nm, .slice av fn cv] W fun r w' => ∃ rs', LaidS ok X own q rs W rs' w' ∧ MadeP W a rs N E rs' r w')) :
    Calls Try.prog 12 #[.agg #[.int .i64 kd, .int .i64 m, .int .i64 long, .string nm, .slice fa fn fc], p, .slice a n c] w fun r w' => ∃ A B G rs', Q A B G ∧ LaidT ok X own q rs G rs' w' ∧ DoneP F G w A B N E rs' r w' := by
  obtain ⟨i0, hi0, hz0, hz1, hz2⟩ := info_parts info_rfield
  have kb0 : (kd == 0) = false := by rw [beq_eq_false_iff_ne]; exact hk0
  have kb1 : (kd == 1) = false := by rw [beq_eq_false_iff_ne]; exact hk1
  have kb2 : (kd == 2) = false := by rw [beq_eq_false_iff_ne]; exact hk2
  have HS := Lib.hid (CopyW.start hp ⟨kd, m, long, nm, fa, fn, fc⟩)
  have HC := Lib.hid hfs
  have hn := hfs.1
  have hne : fn ≤ 1000 := by omega
  have HN := Lib.hid hn
  have HFL : Hid (∀ W, DoneW F F w W ⟨kd, m, long, nm, fa, fn, fc⟩ → FldAt W fa fn fs) := Lib.hid (fun W h => h.tr.fld hfs hfo)
  have HR : Hid (∀ W G, DoneW F G w W ⟨kd, m, long, nm, fa, fn, fc⟩ → K W) := Lib.hid (fun W G h => HK.out G W h.tr)
  have HE := Lib.hid (fun (A B : Int) (G : Face) (w2 w3 : World) (rs' : List RT) (a' : Option Addr) (n' c' : Nat) (h2 : DoneW F G w w2 ⟨kd, m, long, nm, fa, fn, fc⟩) (hr : RAt w3 a' n' rs') (hf : Fr (fun _ => False) w2 w3) (hd : (a' = a ∧ rs' = rs) ∨ ∃ g, a' = some ⟨g, 0, none⟩ ∧ w2.heap.size ≤ g ∧ g < w3.heap.size) (hS : LaidS ok X own q rs w2 rs' w3) => And.intro (laid_end (A := A) (B := B) (N := N) (E := E) (a := a') (n := n') (c := c') h2 hf hS) <| done_end (A := A) (B := B) (N := N) (E := E) (c := c') h2 h0 hoa hr hf hd)
  have HW0 := Lib.hid (show F.lo ≤ w.heap.size from F.le w hp)
  clear hp h0 hoa hfs hfo hn hfew hk0 hk1 hk2 HK
  go_enter Try.func12, Try.ntmps12
  go_wp2
  go_loopw [15, 16] (fun v q wl => ∃ k : Nat, q = .int .i64 k ∧ k ≤ fn ∧ Hid (CopyW F w wl ⟨kd, m, long, nm, fa, fn, fc⟩) ∧ Hid (wl.ownsRow (w.heap.size + 2) 57 3 v k ((fs.take k).flatMap Fld.vals))) (fun _ q _ => fn - (intOf q).toNat)
  case atStart => exact ⟨0, rfl, Nat.zero_le _, HS, Lib.hid (World.ownsRow_nil _ _ _ _)⟩
  case round =>
    obtain ⟨k, rfl, hk, HW, HO⟩ := hrel
    have hsz := HW.out.1.sz
    have z4 : wr.cell? ⟨w.heap.size, 4, none⟩ = some (.slice fa fn fc) := HW.out.1.z4
    have z3 : wr.cell? ⟨w.heap.size, 3, none⟩ = some (.string nm) := HW.out.1.z3
    by_cases hlt : k < fn
    · obtain ⟨g, o, ha, hcell⟩ := (HFL.out wr HW.out.1).2 k (by have := HN.out; omega)
      obtain ⟨f, hf⟩ : ∃ f, fs.getD k fld0 = f := ⟨_, rfl⟩
      rw [hf] at hcell
      have HE1 := Lib.hid hf
      have q0 : wr.cell? ⟨g, o + k * 3, none⟩ = some (.string f.name) := hcell 0 (by decide)
      have q1 : wr.cell? ⟨g, o + k * 3 + 1, none⟩ = some (.int .i64 f.type) := hcell 1 (by decide)
      have q2 : wr.cell? ⟨g, o + k * 3 + 2, none⟩ = some (.int .i64 f.off) := hcell 2 (by decide)
      have t0 : (0 : Int) ≤ k := by omega
      have t1 : (k : Int) < fn := by omega
      clear hcell hf
      subst ha
      go_wp2_with (at_builtin; (refine wpList_append_lies _ (by rfl) _ _ 44 (by rfl) (w.heap.size + 2) 57 i0 _ 3 32 Try.underlying44 hi0 hz0 hz1 hz2 rfl (by decide) u15 k _ (by rfl) (own_new HO.out (fr_al (Fr.refl _ _) _)) ⟨wr.heap.size, 0, none⟩ 1 1 [.string f.name, .int .i64 f.type, .int .i64 f.off] (by rfl) (by rfl) (World.news_of_block (cs := #[.string f.name, .int .i64 f.type, .int .i64 f.off]) (t := 57) (fr := (0, 0)) (heap_alloc_new _ _)) (by simp [Value.oneCell']) (by decide) (by unfold maxLen; omega) (by omega) (by simp; omega) _ rfl ?_; intro gg cap w5 hown5 hgrow5 hat5 hlt5; have HO5 := Lib.hid hown5; have HW5 := Lib.hid (HW.out.grow ((fr_al (Fr.refl (fun j => w.heap.size + 2 ≤ j) wr) (.cells #[.string f.name, .int .i64 f.type, .int .i64 f.off] 57)).trans ((Fr.of_by hgrow5).mono (fun j _ e => (HO.out.lt j e).1))))))
      go_roundw
      case rel => exact ⟨k + 1, by go_num, by omega, HW5, Lib.hid (by rw [ftake_flat fs k f (by have := HN.out; omega) HE1.out]; exact HO5.out)⟩
      case measure => simp [intOf]; omega
    · obtain rfl : fn = k := by omega
      have hown := HO.out
      rw [show fs.take fn = fs by rw [HN.out, List.take_length]] at hown
      obtain ⟨av, cv, hv, hfl, hav⟩ := fld_of_own hown HN.out
      subst hv
      have HT : Hid (∀ (G : Face) (w2 : World), G.lo = F.lo → G.P w2 → Trn F G wr w2 → DoneW F G w w2 ⟨kd, m, long, nm, fa, fn, fc⟩ ∧ FldAt w2 av fn fs) := Lib.hid (fun G w2 hl q t => ⟨HW.out.1.turn t q hl, t.fld hfl (fun g o e _ => ⟨HW.out.2 g (by have := (hav g o e).1; omega), (hav g o e).2⟩)⟩)
      clear hown hfl hav
      go_wp2_with (first
        | (go_at_call 28; (with_reducible refine (H1.out _ HW.out.1.p (HFL.out _ HW.out.1)).mono ?_); rintro r w2 ⟨A, B, G, rfl, hq, hlo, q2, t2⟩; have hd2 := HT.out G w2 hlo q2 t2; have HD2 := Lib.hid hd2; have HQ := Lib.hid hq; have y3 : w2.cell? ⟨w.heap.size, 3, none⟩ = some (.string nm) := hd2.1.z3; clear hd2 q2 t2 hq)
        | (go_at_call 32; (with_reducible refine (H2.out _ av cv (HR.out _ _ HD2.out.1) HD2.out.2).mono ?_); rintro r w3 ⟨rs', hS3, a3, n3, c3, rfl, hr3, hf3, hd3⟩; have hq := HD2.out.1.quiet hf3; have HE3 := Lib.hid (HE.out A B G _ _ rs' a3 n3 c3 HD2.out.1 hr3 hf3 hd3 hS3); obtain ⟨⟨b0, k0⟩, f0⟩ := hq.r 0 (by decide); obtain ⟨⟨b1, k1⟩, f1⟩ := hq.r 1 (by decide); obtain ⟨⟨b2, k2⟩, f2⟩ := hq.r 2 (by decide); clear hq hr3 hf3 hd3 hS3))
      exact bodyPost_ret (v := .tuple #[.int .i64 A, .int .i64 B, .agg #[.int .i64 N, .slice a3 n3 c3, .int .i64 E]]) (by simp [results, Try.results12, go_sem, set3' k0 k1 k2]) rfl ⟨A, B, G, rs', HQ.out, HE3.out.1, HE3.out.2⟩
end Go.Proofs.Ytlhkhgkgjdfcgaa
