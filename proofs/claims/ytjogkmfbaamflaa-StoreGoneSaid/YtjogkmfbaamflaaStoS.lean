/-
  Memories (layer 11): the walk of the law on what is gone, where it is no more than statements go through.
-/
import Derived.Test.YtjogkmfbaamflaaStoR
import Derived.Deep.RegionHeld3
import Derived.Outline
namespace Go.Proofs.Ytjogkmfbaamflaa
open Go.RowKit
set_option linter.unusedVariables false
set_option linter.unusedSimpArgs false
set_option maxRecDepth 100000 in
set_option maxHeartbeats 4000000 in
theorem gone_good (n a q : Nat) (w : World) (hn : 1 ≤ n ∧ n ≤ 300) (hq : 1 ≤ q ∧ a + q ≤ n) :
    Calls Try.prog 4 #[.int .i64 n, .int .i64 a, .int .i64 q] w fun r w' => r = .returned (.bool true) ∧ Fr (fun _ => False) w w' := by
  have d1 : decide ((n : Int) < 1) = false := decide_eq_false (by omega)
  have d2 : decide ((300 : Int) < n) = false := decide_eq_false (by omega)
  have d3 : decide ((a : Int) < 0) = false := decide_eq_false (by omega)
  have d4 : decide ((q : Int) < 1) = false := decide_eq_false (by omega)
  have d5 : decide ((n : Int) < a) = false := decide_eq_false (by omega)
  have d6 : decide ((n : Int) - a < q) = false := decide_eq_false (by omega)
  have HN := Lib.hid hn
  have HQ := Lib.hid hq
  have t1 : (n : Int) ≤ 300 := by omega
  have t2 : (a : Int) + q ≤ n := by omega
  have t3 : (0 : Int) ≤ a := by omega
  have t4 : (1 : Int) ≤ q := by omega
  have t5 : (1 : Int) ≤ n := by omega
  have hmk := make_bytes n (by omega)
  have HMK : Hid (Calls Try.prog 8 #[.pointer (some ⟨w.heap.size, 0, none⟩), .int .i64 n] (w.alloc (.cells #[.slice none 0 0] 53)) fun r w' => r = .returned (.tuple #[.agg #[.int .i64 1, .int .i64 0, .int .i64 n, .int .i64 0], .int .i64 0]) ∧ ∃ ob, MAt w' w.heap.size ob none false (List.replicate n bc0) ∧ Fr (fun _ => False) w w' ∧ ob < w'.heap.size ∧ w.heap.size ≤ ob) := Lib.hid ((make_of (fcell w _ _ 0 _ rfl) (World.frozen?_alloc_new _ _ _ _) n hn).mono fun r w' hr => by
    obtain ⟨e, ob, a, b, c⟩ := hr
    exact ⟨e, ob, a, (fr_al (Fr.refl _ _) _).trans' b (fun j hj q => by omega), (a.lt (by rw [List.length_replicate]; omega)).2.1, by have := c; simp at this; omega⟩)
  clear hn hq
  go_enter Try.func4, Try.ntmps4
  go_wp2_with (first
    | (go_at_call 7; (with_reducible refine (new_of _).mono ?_); rintro r w1 ⟨rfl, rfl⟩)
    | (go_at_call 8; (with_reducible refine HMK.out.mono ?_); rintro r w2 ⟨rfl, ob, hm2, hf2, hob, hob2⟩; have HM2 := Lib.hid (hm2.quiet (fr_al (Fr.refl _ _) (.cells #[.int .i64 1, .int .i64 0, .int .i64 n, .int .i64 0] 24))); have HF2 := Lib.hid (fr_al hf2 (.cells #[.int .i64 1, .int .i64 0, .int .i64 n, .int .i64 0] 24)); have P2 := Lib.hid (fun (j : Nat) (v : Value) (hv : (#[.int .i64 1, .int .i64 0, .int .i64 n, .int .i64 0] : Array Value)[j]? = some v) => fcell w2 _ 24 j v hv); clear hm2 hf2))
  obtain ⟨Wp, hWp⟩ : ∃ Wp, w2.alloc (.cells #[.int .i64 1, .int .i64 0, .int .i64 n, .int .i64 0] 24) = Wp := ⟨_, rfl⟩
  have sWp : Wp.heap.size = w2.heap.size + 1 := by rw [← hWp]; simp
  have SWP := Lib.hid sWp
  clear sWp
  rw [hWp] at HM2 HF2 P2 ⊢
  have x0 := P2.out 0 _ rfl
  have x0a : ∀ o : Obj, (Wp.alloc o).cell? ⟨w2.heap.size, 0, none⟩ = some (.int .i64 1) := fun o => (fr_al (Fr.refl (fun _ => False) Wp) o).cell x0 id
  have HFL : Hid (∀ W, Fr (fun _ => False) Wp W → (∀ i, i < n → W.cell? ⟨Wp.heap.size, i, none⟩ = some (.int .u8 0)) → Calls Try.prog 12 #[.pointer (some ⟨w.heap.size, 0, none⟩), .int .i64 1, .slice (some ⟨Wp.heap.size, 0, none⟩) n n] W fun r w' => r = .returned (.int .i64 0) ∧ ∃ C', MAt w' w.heap.size ob C' false (fillB (List.replicate n bc0) n) ∧ Fr (fun j => j = ob) Wp w') := Lib.hid (fun W hW hd => (gone_fill (HM2.out.quiet hW) HN.out (by have := SWP.out; omega) hd).mono fun r w' hr => by
    obtain ⟨e, C', m, f⟩ := hr
    exact ⟨e, C', m, (hW.mono (fun _ _ f => f.elim)).trans f⟩)
  have HZ : Hid (∀ i, i < n → (Array.replicate n (Value.int .u8 0))[i]? = some (.int .u8 0)) := Lib.hid (fun i hi => by simp [hi])
  clear hWp
  have HC1 : Hid (Calls Try.prog 12 #[.pointer (some ⟨w.heap.size, 0, none⟩), .int .i64 1, .slice (some ⟨Wp.heap.size, 0, none⟩) n n] (Wp.alloc (.cells (Array.replicate n (.int .u8 0)) 5)).drew fun r w' => r = .returned (.int .i64 0) ∧ ∃ C', MAt w' w.heap.size ob C' false (fillB (List.replicate n bc0) n) ∧ Fr (fun j => j = ob) Wp w') := Lib.hid (HFL.out _ (fr_drew (fr_al (Fr.refl _ _) _)) (fun i hi => (fr_drew (Fr.refl (fun _ => False) (Wp.alloc (.cells (Array.replicate n (.int .u8 0)) 5)))).cell (fcell Wp _ 5 i _ (HZ.out i hi)) id))
  clear HFL HZ
  go_region_with (go_at_call 12; (with_reducible refine HC1.out.mono ?_); rintro r w3 ⟨rfl, C3, hm3, hf3⟩)
  all_goals
    have HM3 := Lib.hid hm3
    have HF3 := Lib.hid (HF2.out.trans' hf3 (fun j hj e => by omega))
    have P3 := Lib.hid (fun (j : Nat) (v : Value) (hv : (#[.int .i64 1, .int .i64 0, .int .i64 n, .int .i64 0] : Array Value)[j]? = some v) => hf3.cell (P2.out j v hv) (by show ¬ w2.heap.size = ob; omega))
    have y0 := P3.out 0 _ rfl
    have y1 := P3.out 1 _ rfl
    have y2 := P3.out 2 _ rfl
    have y3 := P3.out 3 _ rfl
    have s3 := hf3.size
    have SW := SWP.out
    have HOB : Hid (ob < w3.heap.size) := Lib.hid (by omega)
    clear hm3 hf3 x0 x0a hmk s3 SW HMK
    have HOW : Hid (w.heap.size ≤ ob) := Lib.hid hob2
    have HPT : Hid (Calls Try.prog 13 #[.pointer (some ⟨w.heap.size, 0, none⟩), .agg #[.int .i64 1, .int .i64 0, .int .i64 n, .int .i64 0], .int .i64 a, .int .i64 q] w3 fun r w' => r = .returned (.tuple #[.agg #[.int .i64 1, .int .i64 a, .int .i64 ((a : Int) + q), .int .i64 a], .int .i64 0]) ∧ Fr (fun _ => False) w3 w') := Lib.hid (by
      have := part_ok HM3.out.s 0 n 0 a q (by omega) (by omega) (by omega)
      rw [Int.zero_add] at this
      exact this)
    have HUN : Hid (∀ W C, MAt W w.heap.size ob C false (fillB (List.replicate n bc0) n) → Calls Try.prog 14 #[.pointer (some ⟨w.heap.size, 0, none⟩), .int .i64 1] W fun r w' => r = .returned (.int .i64 0) ∧ MAt w' w.heap.size ob none false (List.replicate n bc0) ∧ Fr (fun j => j = ob) W w') := Lib.hid (fun W C hm => by
      have e : (fillB (List.replicate n bc0) n).length = n := by rw [fillB_len, List.length_replicate]
      have := unset_of hm (by have := HN.out; omega)
      rw [e] at this
      exact this)
    go_wp2_with (first
      | (go_at_call 13; (with_reducible refine HPT.out.mono ?_); rintro r w4 ⟨rfl, hf⟩; have hg := fr_al hf (.cells #[.int .i64 1, .int .i64 a, .int .i64 ((a : Int) + q), .int .i64 a] 24); have HM4 := Lib.hid (HM3.out.quiet hg); have HF4 := Lib.hid (HF3.out.trans hg); have HO4 : Hid (ob < w4.heap.size) := Lib.hid (by have := HOB.out; have := hf.size; omega); have P4 := Lib.hid (fun (j : Nat) (v : Value) (hv : (#[.int .i64 1, .int .i64 0, .int .i64 n, .int .i64 0] : Array Value)[j]? = some v) => hg.cell (P3.out j v hv) id); have Q4 := Lib.hid (fun (j : Nat) (v : Value) (hv : (#[.int .i64 1, .int .i64 a, .int .i64 ((a : Int) + q), .int .i64 a] : Array Value)[j]? = some v) => fcell w4 _ 24 j v hv); have q40 := Q4.out 0 _ rfl; have q41 := Q4.out 1 _ rfl; have q42 := Q4.out 2 _ rfl; have q43 := Q4.out 3 _ rfl; clear hf hg)
      | (go_at_call 11; (with_reducible refine (gone_load HM4.out HN.out HQ.out).mono ?_); rintro r w5 ⟨⟨u, rfl⟩, hf⟩; have hg := fr_al hf (.cells #[.int .u32 u, .int .i64 0, .int .i64 0, .int .i64 0, .int .i64 0, .bool false] 26); have HM5 := Lib.hid (HM4.out.quiet hg); have HF5 := Lib.hid (HF4.out.trans hg); have P5 := Lib.hid (fun (j : Nat) (v : Value) (hv : (#[.int .i64 1, .int .i64 0, .int .i64 n, .int .i64 0] : Array Value)[j]? = some v) => hg.cell (P4.out j v hv) id); have Q5 := Lib.hid (fun (j : Nat) (v : Value) (hv : (#[.int .i64 1, .int .i64 a, .int .i64 ((a : Int) + q), .int .i64 a] : Array Value)[j]? = some v) => hg.cell (Q4.out j v hv) id); have p50 := P5.out 0 _ rfl; clear hf hg)
      | (go_at_call 14; (with_reducible refine (HUN.out _ _ HM5.out).mono ?_); rintro r w6 ⟨rfl, hm, hf⟩; have HM6 := Lib.hid hm; have HF6 := Lib.hid (HF5.out.trans' hf (fun j hj e => by have := HOW.out; omega)); have P6 := Lib.hid (fun (j : Nat) (v : Value) (hv : (#[.int .i64 1, .int .i64 0, .int .i64 n, .int .i64 0] : Array Value)[j]? = some v) => hf.cell (P5.out j v hv) (by show ¬ w2.heap.size = ob; have := SWP.out; omega)); have Q6 := Lib.hid (fun (j : Nat) (v : Value) (hv : (#[.int .i64 1, .int .i64 a, .int .i64 ((a : Int) + q), .int .i64 a] : Array Value)[j]? = some v) => hf.cell (Q5.out j v hv) (by show ¬ w4.heap.size = ob; have := HO4.out; omega)); have q60 := Q6.out 0 _ rfl; have q61 := Q6.out 1 _ rfl; have q62 := Q6.out 2 _ rfl; have q63 := Q6.out 3 _ rfl; clear hm hf)
      | (go_at_call 11; (with_reducible refine (gone_unset HM6.out HN.out HQ.out).mono ?_); rintro r w7 ⟨rfl, hf⟩; have hg := fr_al hf (.cells #[.int .u32 0, .int .i64 0, .int .i64 0, .int .i64 0, .int .i64 0, .bool false] 26); have HM7 := Lib.hid (HM6.out.quiet hg); have HF7 := Lib.hid (HF6.out.trans hg); have P7 := Lib.hid (fun (j : Nat) (v : Value) (hv : (#[.int .i64 1, .int .i64 0, .int .i64 n, .int .i64 0] : Array Value)[j]? = some v) => hg.cell (P6.out j v hv) id); have Q7 := Lib.hid (fun (j : Nat) (v : Value) (hv : (#[.int .i64 1, .int .i64 a, .int .i64 ((a : Int) + q), .int .i64 a] : Array Value)[j]? = some v) => hg.cell (Q6.out j v hv) id); have q70 := Q7.out 0 _ rfl; have q71 := Q7.out 1 _ rfl; have q72 := Q7.out 2 _ rfl; have q73 := Q7.out 3 _ rfl; clear hf hg)
      | (go_at_call 10; (with_reducible refine (gone_put HM7.out HN.out HQ.out).mono ?_); rintro r w8 ⟨rfl, C8, b8, hm, hf0⟩; have hf : Fr (fun j => j = ob) _ w8 := hf0.mono (fun j _ e => by rcases e with e | ⟨D, e, _⟩; exact e; cases e); have HM8 := Lib.hid hm; have HF8 := Lib.hid (HF7.out.trans' hf (fun j hj e => by have := HOW.out; omega)); have P8 := Lib.hid (fun (j : Nat) (v : Value) (hv : (#[.int .i64 1, .int .i64 0, .int .i64 n, .int .i64 0] : Array Value)[j]? = some v) => hf.cell (P7.out j v hv) (by show ¬ w2.heap.size = ob; have := SWP.out; omega)); have Q8 := Lib.hid (fun (j : Nat) (v : Value) (hv : (#[.int .i64 1, .int .i64 a, .int .i64 ((a : Int) + q), .int .i64 a] : Array Value)[j]? = some v) => hf.cell (Q7.out j v hv) (by show ¬ w4.heap.size = ob; have := HO4.out; omega)); have p80 := P8.out 0 _ rfl; clear hm hf hf0)
      | (go_at_call 15; (with_reducible refine (drop_of HM8.out.s).mono ?_); rintro r w9 ⟨rfl, hm, hf⟩; have HS9 := Lib.hid hm; have HF9 := Lib.hid (HF8.out.trans' hf (fun j hj e => by have := HOW.out; omega)); have P9 := Lib.hid (fun (j : Nat) (v : Value) (hv : (#[.int .i64 1, .int .i64 0, .int .i64 n, .int .i64 0] : Array Value)[j]? = some v) => hf.cell (P8.out j v hv) (by show ¬ w2.heap.size = ob; have := SWP.out; omega)); have Q9 := Lib.hid (fun (j : Nat) (v : Value) (hv : (#[.int .i64 1, .int .i64 a, .int .i64 ((a : Int) + q), .int .i64 a] : Array Value)[j]? = some v) => hf.cell (Q8.out j v hv) (by show ¬ w4.heap.size = ob; have := HO4.out; omega)); have q90 := Q9.out 0 _ rfl; have q91 := Q9.out 1 _ rfl; have q92 := Q9.out 2 _ rfl; have q93 := Q9.out 3 _ rfl; clear hm hf)
      | (go_at_call 11; (with_reducible refine (load_err w.heap.size 1 a ((a : Int) + q) a 1 15 (by decide) (by decide) (Lib.hid fun W hW => reach_dead (HS9.out.quiet hW) _ _ _ _)).mono ?_); rintro r w10 ⟨rfl, hf⟩; have hg := fr_al hf (.cells #[.int .u32 0, .int .i64 0, .int .i64 0, .int .i64 0, .int .i64 0, .bool false] 26); have HS10 := Lib.hid (HS9.out.quiet hg); have HF10 := Lib.hid (HF9.out.trans hg); have P10 := Lib.hid (fun (j : Nat) (v : Value) (hv : (#[.int .i64 1, .int .i64 0, .int .i64 n, .int .i64 0] : Array Value)[j]? = some v) => hg.cell (P9.out j v hv) id); have Q10 := Lib.hid (fun (j : Nat) (v : Value) (hv : (#[.int .i64 1, .int .i64 a, .int .i64 ((a : Int) + q), .int .i64 a] : Array Value)[j]? = some v) => hg.cell (Q9.out j v hv) id); have qa0 := Q10.out 0 _ rfl; have qa1 := Q10.out 1 _ rfl; have qa2 := Q10.out 2 _ rfl; have qa3 := Q10.out 3 _ rfl; clear hf hg)
      | (go_at_call 10; (with_reducible refine (put_err w.heap.size 1 a ((a : Int) + q) a 1 15 0 0 0 0 0 (by decide) (by decide) (Lib.hid fun W hW => reach_dead (HS10.out.quiet hW) _ _ _ _)).mono ?_); rintro r w11 ⟨rfl, hf⟩; have HS11 := Lib.hid (HS10.out.quiet hf); have HF11 := Lib.hid (HF10.out.trans hf); have P11 := Lib.hid (fun (j : Nat) (v : Value) (hv : (#[.int .i64 1, .int .i64 0, .int .i64 n, .int .i64 0] : Array Value)[j]? = some v) => hf.cell (P10.out j v hv) id); have Q11 := Lib.hid (fun (j : Nat) (v : Value) (hv : (#[.int .i64 1, .int .i64 a, .int .i64 ((a : Int) + q), .int .i64 a] : Array Value)[j]? = some v) => hf.cell (Q10.out j v hv) id); have qb0 := Q11.out 0 _ rfl; have qb1 := Q11.out 1 _ rfl; have qb2 := Q11.out 2 _ rfl; have qb3 := Q11.out 3 _ rfl; clear hf)
      | (go_at_call 9; (with_reducible refine (move_dead HS11.out _ _ _ _).mono ?_); rintro r w12 ⟨rfl, hf⟩; have hg := fr_al hf (.cells #[.int .i64 0, .int .i64 0, .int .i64 0, .int .i64 0] 24); have HS12 := Lib.hid (HS11.out.quiet hg); have HF12 := Lib.hid (HF11.out.trans hg); have P12 := Lib.hid (fun (j : Nat) (v : Value) (hv : (#[.int .i64 1, .int .i64 0, .int .i64 n, .int .i64 0] : Array Value)[j]? = some v) => hg.cell (P11.out j v hv) id); clear hf hg)
      | (go_at_call 6; (with_reducible refine (awake_of _).mono ?_); rintro r w13 ⟨rfl, hf⟩; have HS13 := Lib.hid (HS12.out.quiet hf); have HF13 := Lib.hid (HF12.out.trans hf); have P13 := Lib.hid (fun (j : Nat) (v : Value) (hv : (#[.int .i64 1, .int .i64 0, .int .i64 n, .int .i64 0] : Array Value)[j]? = some v) => hf.cell (P12.out j v hv) id); have pd0 := P13.out 0 _ rfl; clear hf)
      | (go_at_call 15; (with_reducible refine (drop_dead HS13.out).mono ?_); rintro r w14 ⟨rfl, rfl⟩))
    go_ret
    exact ⟨rfl, HF13.out⟩
end Go.Proofs.Ytjogkmfbaamflaa
