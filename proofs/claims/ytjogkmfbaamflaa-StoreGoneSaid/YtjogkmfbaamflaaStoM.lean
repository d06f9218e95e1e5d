/-
  Memories (layer 11): the walk of the law on no memory.
-/
import Derived.Test.YtjogkmfbaamflaaStoL
import Derived.Outline
namespace Go.Proofs.Ytjogkmfbaamflaa
open Go.RowKit
set_option linter.unusedVariables false
set_option linter.unusedSimpArgs false
set_option maxRecDepth 100000 in
set_option maxHeartbeats 4000000 in
theorem none_walk (x : ActS) (w : World) (hk : -9223372036854775808 ≤ x.kind ∧ x.kind ≤ 9223372036854775807) :
    Calls Try.prog 5 #[.agg x.vals] w fun r w' => r = .returned (.bool true) ∧ Fr (fun _ => False) w w' := by
  have HFEW : Hid (Calls Try.prog 16 #[.slice (some ⟨w.heap.size + 1, 0, none⟩) 1 1] ((w.alloc (.cells x.vals 46)).alloc (.cells x.vals 46)) fun r w' => SomeB r ∧ Fr (fun _ => False) (w.alloc (.cells x.vals 46)) w') := Lib.hid ((few_one x _ (w.heap.size + 1) (box_two (Fr.refl _ _)).2 hk).mono fun r w' hr => ⟨hr.1, (fr_al (Fr.refl _ _) _).trans hr.2⟩)
  have HACT : Hid (∀ W, Fr (fun _ => False) (w.alloc (.cells x.vals 46)) W → Fr (fun _ => False) w W ∧ ∀ j v, x.vals[j]? = some v → W.cell? ⟨w.heap.size, j, none⟩ = some v) := Lib.hid (fun W hW => ⟨(fr_al (Fr.refl _ _) _).trans hW, fun j v hv => hW.cell (fcell w _ _ j v hv) id⟩)
  obtain ⟨kd, ob, n, sz, is, da, dn, dc, p0, p1, p2, p3, u, q0, q1, q2, q3, vi⟩ := x
  unfold ActS.vals at HFEW HACT ⊢
  dsimp only at HFEW HACT ⊢
  clear hk
  go_enter Try.func5, Try.ntmps5
  go_wp2_with (first
    | (go_at_call 16; (with_reducible refine HFEW.out.mono ?_); rintro r w2 ⟨⟨y, rfl⟩, hf2⟩; have HF2 := Lib.hid hf2; have c2 := (HACT.out _ hf2).2 2 _ rfl; clear hf2; cases y))
  · go_wp2_with (go_at_call 6; (with_reducible refine (awake_of _).mono ?_); rintro r w3 ⟨rfl, hf⟩; have HV := Lib.hid ((HACT.out _ HF2.out).1.trans hf); clear hf)
    go_ret
    exact ⟨rfl, HV.out⟩
  · go_wp2_with (first
      | (go_at_call 8; (with_reducible refine (make_nil _ _).mono ?_); rintro r w3 ⟨rfl, hf⟩; have hg := fr_al hf (.cells #[.int .i64 0, .int .i64 0, .int .i64 0, .int .i64 0] 24); have HF3 := Lib.hid (HF2.out.trans hg); have k := (HACT.out _ HF3.out).2; have e3 := k 3 _ rfl; have e4 := k 4 _ rfl; have e6 := k 6 _ rfl; have e7 := k 7 _ rfl; have e8 := k 8 _ rfl; have e9 := k 9 _ rfl; clear hf hg k)
      | (go_at_call 11; (with_reducible refine (load_nil _ _ _ _ _ _ _).mono ?_); rintro r w4 ⟨rfl, hf⟩; have hg := fr_al hf (.cells #[.int .u32 0, .int .i64 0, .int .i64 0, .int .i64 0, .int .i64 0, .bool false] 26); have HF4 := Lib.hid (HF3.out.trans hg); have k := (HACT.out _ HF4.out).2; have i2 := k 2 _ rfl; have i6 := k 6 _ rfl; have i7 := k 7 _ rfl; have i8 := k 8 _ rfl; have i9 := k 9 _ rfl; have P4 := Lib.hid (fun (j : Nat) (v : Value) (hv : (#[.int .i64 0, .int .i64 0, .int .i64 0, .int .i64 0] : Array Value)[j]? = some v) => hg.cell (fcell w3 _ 24 j v hv) id); clear hf hg k)
      | (go_at_call 9; (with_reducible refine (move_nil _ _ _ _ _ _).mono ?_); rintro r w5 ⟨rfl, hf⟩; have hg := fr_al hf (.cells #[.int .i64 0, .int .i64 0, .int .i64 0, .int .i64 0] 24); have HF5 := Lib.hid (HF4.out.trans hg); have k := (HACT.out _ HF5.out).2; have m2 := k 2 _ rfl; have m3 := k 3 _ rfl; have m6 := k 6 _ rfl; have m7 := k 7 _ rfl; have m8 := k 8 _ rfl; have m9 := k 9 _ rfl; have P5 := Lib.hid (fun j v hv => hg.cell (P4.out j v hv) id); have V5 := Lib.hid (fun (j : Nat) (v : Value) (hv : (#[.int .u32 0, .int .i64 0, .int .i64 0, .int .i64 0, .int .i64 0, .bool false] : Array Value)[j]? = some v) => hg.cell (fcell w4 _ 26 j v hv) id); clear hf hg k)
      | (go_at_call 13; (with_reducible refine (part_nil _ _ _ _ _ _ _).mono ?_); rintro r w6 ⟨rfl, hf⟩; have hg := fr_al hf (.cells #[.int .i64 0, .int .i64 0, .int .i64 0, .int .i64 0] 24); have HF6 := Lib.hid (HF5.out.trans hg); have P6 := Lib.hid (fun j v hv => hg.cell (P5.out j v hv) id); have V6 := Lib.hid (fun j v hv => hg.cell (V5.out j v hv) id); have Q6 := Lib.hid (fun (j : Nat) (v : Value) (hv : (#[.int .i64 0, .int .i64 0, .int .i64 0, .int .i64 0] : Array Value)[j]? = some v) => hg.cell (fcell w5 _ 24 j v hv) id); clear hf hg))
    go_wp2_with (first
      | (go_at_call 6; (with_reducible refine (awake_of _).mono ?_); rintro r w7 ⟨rfl, hf⟩; have HF7 := Lib.hid (HF6.out.trans hf); have k := (HACT.out _ HF7.out).2; have a1 := k 1 _ rfl; have a3 := k 3 _ rfl; have a5 := k 5 _ rfl; have a6 := k 6 _ rfl; have a7 := k 7 _ rfl; have a8 := k 8 _ rfl; have a9 := k 9 _ rfl; have a10 := k 10 _ rfl; have a11 := k 11 _ rfl; have a12 := k 12 _ rfl; have a13 := k 13 _ rfl; have a14 := k 14 _ rfl; have a15 := k 15 _ rfl; have p0 := hf.cell (P6.out 0 _ rfl) id; have p1 := hf.cell (P6.out 1 _ rfl) id; have p2 := hf.cell (P6.out 2 _ rfl) id; have p3 := hf.cell (P6.out 3 _ rfl) id; have v0 := hf.cell (V6.out 0 _ rfl) id; have v1 := hf.cell (V6.out 1 _ rfl) id; have v2 := hf.cell (V6.out 2 _ rfl) id; have v3 := hf.cell (V6.out 3 _ rfl) id; have v4 := hf.cell (V6.out 4 _ rfl) id; have v5 := hf.cell (V6.out 5 _ rfl) id; have q0 := hf.cell (Q6.out 0 _ rfl) id; have q1 := hf.cell (Q6.out 1 _ rfl) id; have q2 := hf.cell (Q6.out 2 _ rfl) id; have q3 := hf.cell (Q6.out 3 _ rfl) id; have r0 := hf.cell (fcell w6 #[.int .i64 0, .int .i64 0, .int .i64 0, .int .i64 0] 24 0 _ rfl) id; have r1 := hf.cell (fcell w6 #[.int .i64 0, .int .i64 0, .int .i64 0, .int .i64 0] 24 1 _ rfl) id; have r2 := hf.cell (fcell w6 #[.int .i64 0, .int .i64 0, .int .i64 0, .int .i64 0] 24 2 _ rfl) id; have r3 := hf.cell (fcell w6 #[.int .i64 0, .int .i64 0, .int .i64 0, .int .i64 0] 24 3 _ rfl) id; clear hf k)
      | (go_at_call 12; (with_reducible refine (fill_nil _ _ _ _ _).mono ?_); rintro r w8 ⟨rfl, rfl⟩)
      | (go_at_call 14; (with_reducible refine (unset_nil _ _).mono ?_); rintro r w8 ⟨rfl, rfl⟩)
      | (go_at_call 15; (with_reducible refine (drop_nil _ _).mono ?_); rintro r w8 ⟨rfl, rfl⟩)
      | (go_at_call 10; (with_reducible refine (put_nil _ _ _ _ _ _ _ _ _ _ _ _).mono ?_); rintro r w9 ⟨rfl, hf⟩; have HF9 := Lib.hid (HF7.out.trans hf); clear hf)
      | (go_at_call 17; (with_reducible refine (count_nil _).mono ?_); rintro r w10 ⟨rfl, rfl⟩))
    go_ret
    exact ⟨rfl, (HACT.out _ HF9.out).1⟩
end Go.Proofs.Ytjogkmfbaamflaa
