/-
  Tables of types (layer 8): an act that makes a pointer, an array, or opens a struct.
-/
import Derived.Test.YtbhhmmfopammgaaKindHa
import Derived.Outline
namespace Go.Proofs.Ytbhhmmfopammgaa
open Go.RowKit
set_option linter.unusedVariables false
set_option linter.unusedSimpArgs false
set_option maxRecDepth 100000 in
set_option maxHeartbeats 1000000 in
theorem done_ptr {F G : Face} {w : World} (hp : F.P w) (hl : G.lo = F.lo) (p : Value) (m long : Int) (nm : ByteArray) (fa : Option Addr) (fn fc : Nat) {A B N E : Int} {a : Option Addr} {n c : Nat} {rs rs' : List RT} (h0 : RAt w a n rs) (hoa : F.offA w a rs.length)
    (H1 : Hid (∀ W, F.P W → Calls Try.prog 25 #[p, .int .i64 m] W fun r w' => r = .returned (.tuple #[.int .i64 A, .int .i64 B]) ∧ G.P w' ∧ Trn F G W w'))
    (H2 : Hid (∀ W, RAt W a n rs → Calls Try.prog 29 #[.slice a n c, .int .i64 m] W (MadeP W a rs N E rs'))) :
    Calls Try.prog 12 #[.agg #[.int .i64 0, .int .i64 m, .int .i64 long, .string nm, .slice fa fn fc], p, .slice a n c] w (DoneP F G w A B N E rs') := by
  have HS := Lib.hid (DoneW.start hp ⟨0, m, long, nm, fa, fn, fc⟩)
  have HT : Hid (∀ W W', DoneW F F w W ⟨0, m, long, nm, fa, fn, fc⟩ → G.P W' → Trn F G W W' → DoneW F G w W' ⟨0, m, long, nm, fa, fn, fc⟩) := Lib.hid (fun W W' h q t => h.turn t q hl)
  have HR : Hid (∀ W, DoneW F G w W ⟨0, m, long, nm, fa, fn, fc⟩ → RAt W a n rs) := Lib.hid (fun W h => h.tr.rat h0 hoa)
  have HE := Lib.hid (fun (w2 w3 : World) (a' : Option Addr) (n' c' : Nat) (h2 : DoneW F G w w2 ⟨0, m, long, nm, fa, fn, fc⟩) (hr : RAt w3 a' n' rs') (hf : Fr (fun _ => False) w2 w3) (hd : (a' = a ∧ rs' = rs) ∨ ∃ g, a' = some ⟨g, 0, none⟩ ∧ w2.heap.size ≤ g ∧ g < w3.heap.size) => done_end (A := A) (B := B) (N := N) (E := E) (c := c') h2 h0 hoa hr hf hd)
  clear hp hl h0 hoa
  go_enter Try.func12, Try.ntmps12
  go_wp2_with (first
    | (go_at_call 25; (with_reducible refine (H1.out _ HS.out.p).mono ?_); rintro r w2 ⟨rfl, q2, t2⟩; have hd2 := HT.out _ _ HS.out q2 t2; have HD2 := Lib.hid hd2; have z1 := hd2.z1; have z2 := hd2.z2; have z3 := hd2.z3; clear hd2 q2 t2)
    | (go_at_call 29; (with_reducible refine (H2.out _ (HR.out _ HD2.out)).mono ?_); rintro r w3 ⟨a3, n3, c3, rfl, hr3, hf3, hd3⟩; have hq := HD2.out.quiet hf3; have HE3 := Lib.hid (HE.out _ _ a3 n3 c3 HD2.out hr3 hf3 hd3); obtain ⟨⟨b0, k0⟩, f0⟩ := hq.r 0 (by decide); obtain ⟨⟨b1, k1⟩, f1⟩ := hq.r 1 (by decide); obtain ⟨⟨b2, k2⟩, f2⟩ := hq.r 2 (by decide); clear hq hr3 hf3 hd3))
  exact bodyPost_ret (v := .tuple #[.int .i64 A, .int .i64 B, .agg #[.int .i64 N, .slice a3 n3 c3, .int .i64 E]]) (by simp [results, Try.results12, go_sem, set3' k0 k1 k2]) rfl HE3.out
set_option maxRecDepth 100000 in
set_option maxHeartbeats 1000000 in
theorem done_array {F G : Face} {w : World} (hp : F.P w) (hl : G.lo = F.lo) (p : Value) (m long : Int) (nm : ByteArray) (fa : Option Addr) (fn fc : Nat) {A B N E : Int} {a : Option Addr} {n c : Nat} {rs rs' : List RT} (h0 : RAt w a n rs) (hoa : F.offA w a rs.length)
    (H1 : Hid (∀ W, F.P W → Calls Try.prog 26 #[p, .int .i64 m, .int .i64 long] W fun r w' => r = .returned (.tuple #[.int .i64 A, .int .i64 B]) ∧ G.P w' ∧ Trn F G W w'))
    (H2 : Hid (∀ W, RAt W a n rs → Calls Try.prog 30 #[.slice a n c, .int .i64 m, .int .i64 long] W (MadeP W a rs N E rs'))) :
    Calls Try.prog 12 #[.agg #[.int .i64 1, .int .i64 m, .int .i64 long, .string nm, .slice fa fn fc], p, .slice a n c] w (DoneP F G w A B N E rs') := by
  have HS := Lib.hid (DoneW.start hp ⟨1, m, long, nm, fa, fn, fc⟩)
  have HT : Hid (∀ W W', DoneW F F w W ⟨1, m, long, nm, fa, fn, fc⟩ → G.P W' → Trn F G W W' → DoneW F G w W' ⟨1, m, long, nm, fa, fn, fc⟩) := Lib.hid (fun W W' h q t => h.turn t q hl)
  have HR : Hid (∀ W, DoneW F G w W ⟨1, m, long, nm, fa, fn, fc⟩ → RAt W a n rs) := Lib.hid (fun W h => h.tr.rat h0 hoa)
  have HE := Lib.hid (fun (w2 w3 : World) (a' : Option Addr) (n' c' : Nat) (h2 : DoneW F G w w2 ⟨1, m, long, nm, fa, fn, fc⟩) (hr : RAt w3 a' n' rs') (hf : Fr (fun _ => False) w2 w3) (hd : (a' = a ∧ rs' = rs) ∨ ∃ g, a' = some ⟨g, 0, none⟩ ∧ w2.heap.size ≤ g ∧ g < w3.heap.size) => done_end (A := A) (B := B) (N := N) (E := E) (c := c') h2 h0 hoa hr hf hd)
  clear hp hl h0 hoa
  go_enter Try.func12, Try.ntmps12
  go_wp2_with (first
    | (go_at_call 26; (with_reducible refine (H1.out _ HS.out.p).mono ?_); rintro r w2 ⟨rfl, q2, t2⟩; have hd2 := HT.out _ _ HS.out q2 t2; have HD2 := Lib.hid hd2; have z1 := hd2.z1; have z2 := hd2.z2; have z3 := hd2.z3; clear hd2 q2 t2)
    | (go_at_call 30; (with_reducible refine (H2.out _ (HR.out _ HD2.out)).mono ?_); rintro r w3 ⟨a3, n3, c3, rfl, hr3, hf3, hd3⟩; have hq := HD2.out.quiet hf3; have HE3 := Lib.hid (HE.out _ _ a3 n3 c3 HD2.out hr3 hf3 hd3); obtain ⟨⟨b0, k0⟩, f0⟩ := hq.r 0 (by decide); obtain ⟨⟨b1, k1⟩, f1⟩ := hq.r 1 (by decide); obtain ⟨⟨b2, k2⟩, f2⟩ := hq.r 2 (by decide); clear hq hr3 hf3 hd3))
  exact bodyPost_ret (v := .tuple #[.int .i64 A, .int .i64 B, .agg #[.int .i64 N, .slice a3 n3 c3, .int .i64 E]]) (by simp [results, Try.results12, go_sem, set3' k0 k1 k2]) rfl HE3.out
set_option maxRecDepth 100000 in
set_option maxHeartbeats 1000000 in
theorem done_open {F G : Face} {w : World} (hp : F.P w) (hl : G.lo = F.lo) (p : Value) (m long : Int) (nm : ByteArray) (fa : Option Addr) (fn fc : Nat) {A B N E : Int} {a : Option Addr} {n c : Nat} {rs rs' : List RT} (h0 : RAt w a n rs) (hoa : F.offA w a rs.length)
    (H1 : Hid (∀ W, F.P W → Calls Try.prog 27 #[p, .string nm] W fun r w' => r = .returned (.tuple #[.int .i64 A, .int .i64 B]) ∧ G.P w' ∧ Trn F G W w'))
    (H2 : Hid (∀ W, RAt W a n rs → Calls Try.prog 31 #[.slice a n c, .string nm] W (MadeP W a rs N E rs'))) :
    Calls Try.prog 12 #[.agg #[.int .i64 2, .int .i64 m, .int .i64 long, .string nm, .slice fa fn fc], p, .slice a n c] w (DoneP F G w A B N E rs') := by
  have HS := Lib.hid (DoneW.start hp ⟨2, m, long, nm, fa, fn, fc⟩)
  have HT : Hid (∀ W W', DoneW F F w W ⟨2, m, long, nm, fa, fn, fc⟩ → G.P W' → Trn F G W W' → DoneW F G w W' ⟨2, m, long, nm, fa, fn, fc⟩) := Lib.hid (fun W W' h q t => h.turn t q hl)
  have HR : Hid (∀ W, DoneW F G w W ⟨2, m, long, nm, fa, fn, fc⟩ → RAt W a n rs) := Lib.hid (fun W h => h.tr.rat h0 hoa)
  have HE := Lib.hid (fun (w2 w3 : World) (a' : Option Addr) (n' c' : Nat) (h2 : DoneW F G w w2 ⟨2, m, long, nm, fa, fn, fc⟩) (hr : RAt w3 a' n' rs') (hf : Fr (fun _ => False) w2 w3) (hd : (a' = a ∧ rs' = rs) ∨ ∃ g, a' = some ⟨g, 0, none⟩ ∧ w2.heap.size ≤ g ∧ g < w3.heap.size) => done_end (A := A) (B := B) (N := N) (E := E) (c := c') h2 h0 hoa hr hf hd)
  clear hp hl h0 hoa
  go_enter Try.func12, Try.ntmps12
  go_wp2_with (first
    | (go_at_call 27; (with_reducible refine (H1.out _ HS.out.p).mono ?_); rintro r w2 ⟨rfl, q2, t2⟩; have hd2 := HT.out _ _ HS.out q2 t2; have HD2 := Lib.hid hd2; have z1 := hd2.z1; have z2 := hd2.z2; have z3 := hd2.z3; clear hd2 q2 t2)
    | (go_at_call 31; (with_reducible refine (H2.out _ (HR.out _ HD2.out)).mono ?_); rintro r w3 ⟨a3, n3, c3, rfl, hr3, hf3, hd3⟩; have hq := HD2.out.quiet hf3; have HE3 := Lib.hid (HE.out _ _ a3 n3 c3 HD2.out hr3 hf3 hd3); obtain ⟨⟨b0, k0⟩, f0⟩ := hq.r 0 (by decide); obtain ⟨⟨b1, k1⟩, f1⟩ := hq.r 1 (by decide); obtain ⟨⟨b2, k2⟩, f2⟩ := hq.r 2 (by decide); clear hq hr3 hf3 hd3))
  exact bodyPost_ret (v := .tuple #[.int .i64 A, .int .i64 B, .agg #[.int .i64 N, .slice a3 n3 c3, .int .i64 E]]) (by simp [results, Try.results12, go_sem, set3' k0 k1 k2]) rfl HE3.out
end Go.Proofs.Ytbhhmmfopammgaa
