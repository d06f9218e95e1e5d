/-
  Numbers as text: one, and a list of them, each behind a space.
-/
import Derived.Test.YtnhdchagoabjeaaDoorBldA
import Derived.Lib.LaidTab
import Derived.Lib.ItoaLen
import Derived.Laws.Concat
namespace Go.Proofs.YtnhdchagoabjeaaDoor
open Go.RowKit
set_option linter.unusedVariables false
set_option linter.unusedSimpArgs false
/-- The library's table of powers of ten lies where it should. -/
def TabW (w : World) : Prop := Lib.TabIs Tryd.prog w "internal/strconv.uint64pow10" .u64 Lib.pow10Tab
theorem gTab : Tryd.prog.globalNamed "internal/strconv.uint64pow10" = some 0 := by kernel_rfl
theorem TabW.lt {w : World} (h : TabW w) : 0 < w.heap.size := by
  have := h.cell gTab 0 (by decide)
  exact World.block_lt_of_cell? w _ this
theorem TabW.fr {F : Nat → Prop} {w w' : World} (h : TabW w) (hf : Fr F w w') (hn : ¬ F 0) : TabW w' := by
  have e := hf.block _ h.lt hn
  unfold TabW Lib.TabIs World.var? at *
  rw [gTab] at *
  simp only [Option.bind_some] at *
  rw [e]; exact h
theorem fr_grow (w : World) (k : Nat) (os : Array Obj) : Fr (fun _ => False) w (Go.Sort.grow (w.drewN k) os) :=
  ⟨rfl, rfl, by show w.heap.size ≤ (w.heap ++ os).size; rw [Array.size_append]; omega, fun j hj _ => by show (w.heap ++ os)[j]? = _; rw [Array.getElem?_append_left hj]⟩
theorem itoa_any (n : Int) (h0 : -9223372036854775808 ≤ n) (h1 : n ≤ 9223372036854775807) (w : World) (ht : TabW w) :
    Calls Tryd.prog 38 #[.int .i64 n] w fun e w' => e = .returned (.string ⟨(Lib.itoa n).toArray⟩) ∧ Fr (fun _ => False) w w' :=
  (Tryd.strconv_Itoa n h0 h1 w ht).mono fun e w' h => ⟨h.1, by obtain ⟨k, os, rfl⟩ := h.2; exact fr_grow w k os⟩
def numsL (l : List Int) : List UInt8 := l.flatMap fun x => 32 :: Lib.itoa x
theorem numsL_snoc (l : List Int) (x : Int) : numsL (l ++ [x]) = numsL l ++ (32 :: Lib.itoa x) := by simp [numsL]
theorem str_app (a b : List UInt8) : (ByteArray.mk a.toArray ++ ByteArray.mk b.toArray) = ByteArray.mk (a ++ b).toArray := by
  apply ByteArray.ext
  simp [ByteArray.data_append]
theorem numsL_len (l : List Int) (h : ∀ x ∈ l, -9223372036854775808 ≤ x ∧ x ≤ 9223372036854775807) : (numsL l).length ≤ 22 * l.length := by
  induction l with
  | nil => simp [numsL]
  | cons x l ih =>
    have h1 := Lib.itoa_length_le x (h x (by simp)).1 (h x (by simp)).2
    have h2 := ih (fun y hy => h y (by simp [hy]))
    have e : numsL (x :: l) = (32 :: Lib.itoa x) ++ numsL l := by simp [numsL]
    rw [e]; simp only [List.length_append, List.length_cons]; omega
/-- These numbers lie behind a slice's head. -/
def IntsAt (w : World) (a : Option Addr) (l : List Int) : Prop := ∀ k, k < l.length → ∃ g o, a = some ⟨g, o, none⟩ ∧ w.cell? ⟨g, o + k, none⟩ = some (.int .i64 (l.getD k 0))
theorem IntsAt.fr {w w' : World} {a : Option Addr} {l : List Int} (h : IntsAt w a l) (hf : Fr (fun _ => False) w w') : IntsAt w' a l := fun k hk => by
  obtain ⟨g, o, e, c⟩ := h k hk
  exact ⟨g, o, e, hf.cell c id⟩
def NumsP (l : List Int) (w : World) (e : Ending) (w' : World) : Prop := e = .returned (.string ⟨(numsL l).toArray⟩) ∧ Fr (fun _ => False) w w'
set_option maxRecDepth 100000 in
set_option maxHeartbeats 4000000 in
theorem numbers_any (a : Option Addr) (c : Nat) (l : List Int) (hl : l.length ≤ 100000) (hr : ∀ x ∈ l, -9223372036854775808 ≤ x ∧ x ≤ 9223372036854775807) (w : World) (hat : IntsAt w a l) (ht : TabW w) :
    Calls Tryd.prog 40 #[.slice a l.length c] w (NumsP l w) := by
  have HA := Lib.hid hat
  have HT := Lib.hid ht
  have HR := Lib.hid hr
  obtain ⟨n, hn⟩ : ∃ n, l.length = n := ⟨_, rfl⟩
  have HN := Lib.hid hn
  rw [hn] at hl ⊢
  clear hat ht hr hn
  go_enter Tryd.func40, Tryd.ntmps40
  go_wp2
  go_loopw [8, 5] (fun q _ wr => ∃ k : Nat, q = .int .i64 k ∧ k ≤ n ∧ Hid (Fr (fun _ => False) w wr ∧ ∃ v, Bld wr w.heap.size w.heap.size v (numsL (l.take k)))) (fun q _ _ => n - (intOf q).toNat)
  case atStart => exact ⟨0, rfl, Nat.zero_le _, Lib.hid ⟨fr_al (Fr.refl _ _) _, _, Bld.start w⟩⟩
  case round =>
    obtain ⟨k, rfl, hk, HW⟩ := hrel
    by_cases hlt : k < n
    · obtain ⟨g, o, rfl, hc⟩ := (HA.out.fr HW.out.1) k (by rw [HN.out]; exact hlt)
      have hm : l.getD k 0 ∈ l := by
        have hk' : k < l.length := by rw [HN.out]; exact hlt
        rw [List.getD_eq_getElem?_getD, List.getElem?_eq_getElem hk']; exact List.getElem_mem _
      obtain ⟨x0, x1⟩ := HR.out _ hm
      have hts : l.take (k + 1) = l.take k ++ [l.getD k 0] := by
        have hk' : k < l.length := by rw [HN.out]; exact hlt
        rw [List.take_add_one, List.getElem?_eq_getElem hk', List.getD_eq_getElem?_getD, List.getElem?_eq_getElem hk']; rfl
      have HX : Hid (numsL (l.take (k + 1)) = numsL (l.take k) ++ (32 :: Lib.itoa (l.getD k 0))) := Lib.hid (by rw [hts, numsL_snoc])
      have hnl := numsL_len (l.take k) (fun y hy => HR.out y (List.mem_of_mem_take hy))
      have hil := Lib.itoa_length_le (l.getD k 0) x0 x1
      have htl : (l.take k).length ≤ k := List.length_take_le _ _
      have HI := Lib.hid (fun W hW => itoa_any (l.getD k 0) x0 x1 W hW)
      generalize l.getD k 0 = x at *
      obtain ⟨v, hb⟩ := HW.out.2
      have HB := Lib.hid hb
      have hLN : Hid ((numsL (l.take k)).length + (ByteArray.mk (32 :: Lib.itoa x).toArray).size ≤ 140737488355328) := Lib.hid (by rw [show (ByteArray.mk (32 :: Lib.itoa x).toArray).size = (32 :: Lib.itoa x).length from rfl, List.length_cons]; omega)
      have hsz : (ByteArray.mk (Lib.itoa x).toArray).size ≤ 21 := hil
      have HSA := Lib.hid (str_app [32] (Lib.itoa x))
      generalize Lib.itoa x = ix at *
      have HTR := Lib.hid (HT.out.fr HW.out.1 id)
      have HSZ := Lib.hid HW.out.1.size
      clear hb hts hnl htl hm
      go_wp2_with first
        | (go_at_call 38; (with_reducible refine (HI.out _ HTR.out).mono ?_); rintro e w2 ⟨rfl, hf⟩; have F2 := Lib.hid hf; have HB2 := Lib.hid (HB.out.fr hf id (fun _ _ => id)); have HZ2 := Lib.hid (Nat.le_trans HSZ.out hf.size); clear hf)
        | (go_at_call 37; (refine (wr_any w.heap.size w.heap.size v (numsL (l.take k)) (ByteArray.mk (32 :: ix).toArray) w2 HB2.out hLN.out HZ2.out).mono ?_); rintro e w3 ⟨rfl, v', hb, hf, _⟩; have HB3 := Lib.hid hb; have F3 := Lib.hid hf; clear hb hf)
      go_roundw
      case rel => exact ⟨k + 1, by go_num, by omega, Lib.hid ⟨(HW.out.1.trans F2.out).trans' F3.out (fun j hj e => by
          rcases e with e | e
          · omega
          · have := (World.ownsRow.lt HB.out.row j e).1; omega), v', by rw [HX.out]; exact HB3.out⟩⟩
      case measure => simp [intOf]; omega
    · obtain rfl : k = n := by omega
      obtain ⟨v, hb⟩ := HW.out.2
      have htk : l.take k = l := by rw [← HN.out, List.take_length]
      rw [htk] at hb
      have HS := Lib.hid (str_any w.heap.size w.heap.size v (numsL l) wr hb HW.out.1.size)
      clear hb
      go_wp2_with (go_at_call 41; (with_reducible refine HS.out.mono ?_); rintro e w2 ⟨rfl, hf⟩; have F2 := Lib.hid hf; clear hf)
      go_ret
      exact ⟨rfl, HW.out.1.trans' F2.out (fun j hj e => by omega)⟩
end Go.Proofs.YtnhdchagoabjeaaDoor
