/-
  Tables of types (layer 8): one type in both tables, compared.
-/
import Derived.Test.YtlhkhgkgjdfcgaaQKindIb
import Derived.LoopTactic
import Derived.Deep.QuietTactic
import Derived.BigQuiet
import Derived.Outline
namespace Go.Proofs.Ytlhkhgkgjdfcgaa
open Go.RowKit
set_option linter.unusedVariables false
set_option linter.unusedSimpArgs false
theorem box_two {w W : World} {A B : Array Value} {t u : TypeId} (h : Fr (fun _ => False) ((w.alloc (.cells A t)).alloc (.cells B u)) W) : (∀ j v, A[j]? = some v → W.cell? ⟨w.heap.size, j, none⟩ = some v) ∧ (∀ j v, B[j]? = some v → W.cell? ⟨w.heap.size + 1, j, none⟩ = some v) := by
  refine ⟨fun j v hv => h.cell ((fr_al (Fr.refl (fun _ => False) _) _).cell (fcell w A t j v hv) id) id, fun j v hv => ?_⟩
  have := h.cell (fcell (w.alloc (.cells A t)) B u j v hv) id
  simpa using this
set_option maxRecDepth 100000 in
set_option maxHeartbeats 4000000 in
theorem same_of (w : World) (k el ln : Int) (nm : ByteArray) (ga fa : Option Addr) (n gc fc : Nat) (opn : Bool) (fs : List Fld) (h1 : FldAt w ga n fs) (h2 : FldAt w fa n fs) (hf1 : fs.length ≤ 1000) :
    Calls Try.prog 18 #[.agg #[.int .i64 k, .int .i64 el, .int .i64 ln, .string nm, .slice ga n gc], .agg #[.int .i64 k, .int .i64 el, .int .i64 ln, .string nm, .slice fa n fc, .bool opn]] w fun r w' => r = .returned (.bool true) ∧ Fr (fun _ => False) w w' := by
  have hn := h1.1
  have hn1 : n ≤ 1000 := by omega
  obtain ⟨w6, hw6⟩ : ∃ w6, (w.alloc (.cells #[.int .i64 k, .int .i64 el, .int .i64 ln, .string nm, .slice ga n gc] 38)).alloc (.cells #[.int .i64 k, .int .i64 el, .int .i64 ln, .string nm, .slice fa n fc, .bool opn] 46) = w6 := ⟨_, rfl⟩
  have hf6 : Fr (fun _ => False) w w6 := by rw [← hw6]; exact fr_al (fr_al (Fr.refl _ _) _) _
  have HF6 := Lib.hid hf6
  have H1 : Hid (∀ W, Fr (fun _ => False) w6 W → FldAt W ga n fs ∧ FldAt W fa n fs) := Lib.hid (fun W hW => ⟨h1.quiet (hf6.trans hW), h2.quiet (hf6.trans hW)⟩)
  have HB : Hid (∀ W, Fr (fun _ => False) w6 W → W.cell? ⟨w.heap.size, 4, none⟩ = some (.slice ga n gc) ∧ W.cell? ⟨w.heap.size + 1, 4, none⟩ = some (.slice fa n fc)) := Lib.hid (fun W hW => by rw [← hw6] at hW; exact ⟨(box_two hW).1 4 _ rfl, (box_two hW).2 4 _ rfl⟩)
  have HN := Lib.hid hn
  have HW6 := Lib.hid hw6
  clear h1 h2 hf1 hn hf6 hw6
  go_enter Try.func18, Try.ntmps18
  go_wp2
  rw [HW6.out]
  go_loopw [5] (fun q wl => ∃ i : Nat, q = .int .i64 i ∧ i ≤ n ∧ Hid (Fr (fun _ => False) w6 wl)) (fun q _ => n - (intOf q).toNat)
  case atStart => exact ⟨0, rfl, Nat.zero_le _, Lib.hid (Fr.refl _ _)⟩
  case round =>
    obtain ⟨i, rfl, hi, HW⟩ := hrel
    obtain ⟨b1, b2⟩ := HB.out wr HW.out
    by_cases hlt : i < n
    · obtain ⟨ha, hb⟩ := H1.out wr HW.out
      obtain ⟨g1, o1, e1, c1⟩ := ha.2 i (by have := HN.out; omega)
      obtain ⟨g2, o2, e2, c2⟩ := hb.2 i (by have := HN.out; omega)
      generalize fs.getD i fld0 = f at c1 c2
      have p0 : wr.cell? ⟨g1, o1 + i * 3, none⟩ = some (.string f.name) := c1 0 (by decide)
      have p1 : wr.cell? ⟨g1, o1 + i * 3 + 1, none⟩ = some (.int .i64 f.type) := c1 1 (by decide)
      have p2 : wr.cell? ⟨g1, o1 + i * 3 + 2, none⟩ = some (.int .i64 f.off) := c1 2 (by decide)
      have q0 : wr.cell? ⟨g2, o2 + i * 3, none⟩ = some (.string f.name) := c2 0 (by decide)
      have q1 : wr.cell? ⟨g2, o2 + i * 3 + 1, none⟩ = some (.int .i64 f.type) := c2 1 (by decide)
      have q2 : wr.cell? ⟨g2, o2 + i * 3 + 2, none⟩ = some (.int .i64 f.off) := c2 2 (by decide)
      have t0 : (0 : Int) ≤ i := by omega
      have t1 : (i : Int) < n := by omega
      clear c1 c2 ha hb
      subst e1 e2
      go_wp2
      go_quiet (fail)
      go_wp2
      go_roundw
      case rel => exact ⟨i + 1, by go_num, by omega, Lib.hid (by first | exact HW.out | exact fr_drew HW.out | exact HW.out.drewN _)⟩
      case measure => simp [intOf]; omega
    · obtain rfl : n = i := by omega
      go_wp2
      go_ret
      exact ⟨rfl, HF6.out.trans HW.out⟩
end Go.Proofs.Ytlhkhgkgjdfcgaa
