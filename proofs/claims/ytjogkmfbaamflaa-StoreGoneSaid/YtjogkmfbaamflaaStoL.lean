/-
  Memories (layer 11): are acts few?
-/
import Derived.Test.YtjogkmfbaamflaaStoK
import Derived.Outline
namespace Go.Proofs.Ytjogkmfbaamflaa
open Go.RowKit
set_option linter.unusedVariables false
set_option linter.unusedSimpArgs false
def SomeB (r : Ending) : Prop := ∃ x, r = .returned (.bool x)
set_option maxHeartbeats 2000000 in
theorem sane_of (a b c d : Int) (w : World) : Calls Try.prog 28 #[.agg #[.int .i64 a, .int .i64 b, .int .i64 c, .int .i64 d]] w fun r w' => SomeB r ∧ Fr (fun _ => False) w w' := by
  have HF := Lib.hid (fr_al (Fr.refl (fun _ => False) w) (.cells #[.int .i64 a, .int .i64 b, .int .i64 c, .int .i64 d] 74))
  go_enter Try.func28, Try.ntmps28
  go_wp2
  all_goals
    go_ret
    first | exact ⟨⟨true, rfl⟩, HF.out⟩ | exact ⟨⟨false, rfl⟩, HF.out⟩ | exact ⟨⟨_, rfl⟩, HF.out⟩
set_option maxHeartbeats 2000000 in
theorem sane3_of (a b c d m n : Int) (w : World) : Calls Try.prog 26 #[.agg #[.int .i64 a, .int .i64 b, .int .i64 c, .int .i64 d], .int .i64 m, .int .i64 n] w fun r w' => SomeB r ∧ Fr (fun _ => False) w w' := by
  have HF := Lib.hid (fr_al (Fr.refl (fun _ => False) w) (.cells #[.int .i64 a, .int .i64 b, .int .i64 c, .int .i64 d] 74))
  go_enter Try.func26, Try.ntmps26
  go_wp2_with (go_at_call 28; (with_reducible refine (sane_of _ _ _ _ _).mono ?_); rintro r w1 ⟨⟨x, rfl⟩, hf⟩; have HF1 := Lib.hid (HF.out.trans hf); clear hf)
  all_goals
    go_ret
    first | exact ⟨⟨true, rfl⟩, HF1.out⟩ | exact ⟨⟨false, rfl⟩, HF1.out⟩ | exact ⟨⟨_, rfl⟩, HF1.out⟩
structure ActS where
  kind : Int
  obj : Int
  n : Int
  size : Int
  is : Bool
  da : Option Addr
  dn : Nat
  dc : Nat
  p0 : Int
  p1 : Int
  p2 : Int
  p3 : Int
  u : Int
  q0 : Int
  q1 : Int
  q2 : Int
  q3 : Int
  vi : Bool
def ActS.vals (x : ActS) : Array Value := #[.int .i64 x.kind, .int .i64 x.obj, .int .i64 x.n, .int .i64 x.size, .bool x.is, .slice x.da x.dn x.dc, .int .i64 x.p0, .int .i64 x.p1, .int .i64 x.p2, .int .i64 x.p3, .int .u32 x.u, .int .i64 x.q0, .int .i64 x.q1, .int .i64 x.q2, .int .i64 x.q3, .bool x.vi]
set_option maxRecDepth 100000 in
set_option maxHeartbeats 4000000 in
theorem few_one (x : ActS) (w : World) (b : Nat) (h : ∀ j v, x.vals[j]? = some v → w.cell? ⟨b, j, none⟩ = some v) (hk : -9223372036854775808 ≤ x.kind ∧ x.kind ≤ 9223372036854775807) :
    Calls Try.prog 16 #[.slice (some ⟨b, 0, none⟩) 1 1] w fun r w' => SomeB r ∧ Fr (fun _ => False) w w' := by
  obtain ⟨kd, ob, n, sz, is, da, dn, dc, p0, p1, p2, p3, u, q0, q1, q2, q3, vi⟩ := x
  unfold ActS.vals at h
  have c0 := h 0 _ rfl
  have c1 := h 1 _ rfl
  have c2 := h 2 _ rfl
  have c3 := h 3 _ rfl
  have c4 := h 4 _ rfl
  have c5 := h 5 _ rfl
  have c6 := h 6 _ rfl
  have c7 := h 7 _ rfl
  have c8 := h 8 _ rfl
  have c9 := h 9 _ rfl
  have c10 := h 10 _ rfl
  have c11 := h 11 _ rfl
  have c12 := h 12 _ rfl
  have c13 := h 13 _ rfl
  have c14 := h 14 _ rfl
  have c15 := h 15 _ rfl
  dsimp only at c0 c1 c2 c3 c4 c5 c6 c7 c8 c9 c10 c11 c12 c13 c14 c15
  clear h
  have HC : Hid (∀ W, Fr (fun _ => False) w W → W.cell? ⟨b, 0, none⟩ = some (.int .i64 kd)) := Lib.hid (fun W hW => hW.cell c0 id)
  go_enter Try.func16, Try.ntmps16
  go_wp2
  go_loopw [3] (fun q wl => (q = .int .i64 0 ∧ Hid (Fr (fun _ => False) w wl)) ∨ (q = .int .i64 1 ∧ Hid (Fr (fun _ => False) w wl))) (fun q _ => 1 - (intOf q).toNat)
  case atStart => exact .inl ⟨rfl, Lib.hid (Fr.refl _ _)⟩
  case round =>
    rcases hrel with ⟨rfl, HW⟩ | ⟨rfl, HW⟩
    · have e0 := HW.out.cell c0 id
      have e1 := HW.out.cell c1 id
      have e2 := HW.out.cell c2 id
      have e3 := HW.out.cell c3 id
      have e4 := HW.out.cell c4 id
      have e5 := HW.out.cell c5 id
      have e6 := HW.out.cell c6 id
      have e7 := HW.out.cell c7 id
      have e8 := HW.out.cell c8 id
      have e9 := HW.out.cell c9 id
      have e10 := HW.out.cell c10 id
      have e11 := HW.out.cell c11 id
      have e12 := HW.out.cell c12 id
      have e13 := HW.out.cell c13 id
      have e14 := HW.out.cell c14 id
      have e15 := HW.out.cell c15 id
      clear c0 c1 c2 c3 c4 c5 c6 c7 c8 c9 c10 c11 c12 c13 c14 c15
      have HA0 := Lib.hid (fr_al (Fr.refl (fun _ => False) wr) (.cells #[.int .i64 kd, .int .i64 ob, .int .i64 n, .int .i64 sz, .bool is, .slice da dn dc, .int .i64 p0, .int .i64 p1, .int .i64 p2, .int .i64 p3, .int .u32 u, .int .i64 q0, .int .i64 q1, .int .i64 q2, .int .i64 q3, .bool vi] 46))
      have HA := Lib.hid (HW.out.trans HA0.out)
      obtain ⟨km, hkm⟩ : ∃ km, kd.tmod 100 = km := ⟨_, rfl⟩
      go_wp2_with (go_at_call 26; (with_reducible refine (sane3_of _ _ _ _ _ _ _).mono ?_); rintro r w3 ⟨⟨y, rfl⟩, hf3⟩; have HW3 := Lib.hid (HA.out.trans hf3); clear hf3; cases y)
      all_goals
        first
          | (go_roundw; (case rel => (first | exact .inr ⟨rfl, HW3⟩ | exact .inr ⟨rfl, HA⟩)); (case measure => (first | decide | (simp [intOf] <;> omega))))
          | (go_ret; first | exact ⟨⟨true, rfl⟩, HW3.out⟩ | exact ⟨⟨false, rfl⟩, HW3.out⟩ | exact ⟨⟨true, rfl⟩, HA.out⟩ | exact ⟨⟨false, rfl⟩, HA.out⟩)
    · go_wp2
      go_ret
      exact ⟨⟨true, rfl⟩, HW.out⟩
end Go.Proofs.Ytjogkmfbaamflaa
