/-
  Runs (layer 14): execute at an output.
-/
import Derived.Test.YtelgppoohjblnaaIrL
import Derived.Deep.RegionLaw
import Derived.Maps.AppendAt
namespace Go.Proofs.Ytelgppoohjblnaa
open Go.RowKit
set_option linter.unusedVariables false
set_option linter.unusedSimpArgs false
theorem step_own {P : Program} {ops : Array Oper} {o : Oper} {a : Act} {w : World} {K : Act → World → Prop} {Q : Exit → Act → World → Prop} {E : Prop}
    (hgd : o.guard = none) (s x : Operand) (t : TypeId) (ho : o.op = .call { callee := .builtin .append, args := #[s, x], argTypes := #[t, t] })
    (base : Nat) (e : TypeId) (i : TypeInfo) (z : Value) (size bytes : Nat) (ht : P.underlying t = some (.slice e)) (hi : P.info? e = some i) (hz : i.zero = some z)
    (hsize : i.size = size) (hby : i.bytes = bytes) (hzs : z.cells.size = size) (hsz : 0 < size)
    (v : Value) (n : Nat) (xs : List Value) (hs : a.eval s = v) (hown : w.ownsRow base e size v n xs)
    (ad : Addr) (m c : Nat) (news : List Value) (hx : a.eval x = .slice (some ad) m c) (hl : news.length = m * size) (hnews : ∀ j u, news[j]? = some u → w.cell? (ad.add j) = some u) (h1 : ∀ u ∈ news, u.oneCell' = true)
    (h63 : n + m ≤ maxLen) (hbytes : (n + m) * bytes ≤ 140737488355328) (hbase : base ≤ w.heap.size)
    (h : ∀ v' w', w'.ownsRow base e size v' (n + m) (xs ++ news) → w.grownBy w' v.ownBlock → (v' = .slice none 0 0 ↔ v = .slice none 0 0 ∧ m = 0) → K (a.put o.dst v') w') :
    if Region.wanted o (yielded ops a.tmps) = true then Oper.wp P o a w K Q else E := by
  have hw : Region.wanted o (yielded ops a.tmps) = true := by simp [Region.wanted, hgd]
  rw [if_pos hw]
  obtain ⟨v', w', hr, h2, h3, h4⟩ := run_append_own (P := P) w base t o.type e i z size bytes ht hi hz hsize hby hzs hsz v n xs hown ad m c news hl hnews h1 h63 hbytes hbase
  unfold Oper.wp
  simp [execOp, ho, resolve, invoke, builtin, hs, hx, hr, Result.andThen]
  exact h v' w' h2 h3 h4
theorem fr_ald (w : World) (o : Obj) : Fr (fun _ => False) w (w.alloc o).drew := ⟨rfl, rfl, Nat.le_of_lt (by simp), fun k hk _ => heap_alloc_old w o hk⟩
theorem infoU : (Try.prog.info? 22).map (fun i => (i.zero, i.size, i.bytes)) = some (some (.int .u32 0), 1, 4) := by kernel_rfl
theorem alloc_lt' (w : World) (o : Obj) : w.heap.size < (w.alloc o).heap.size := by simp
def ExOutP (mb cb rb bb bi : Nat) (ns ex e gl da pr mn inp fu me at_ fl fr ca nx : Value) (w : World) (en : Ending) (w' : World) : Prop := en = .returned (.tuple #[]) ∧ ∃ g cap, w.heap.size ≤ g ∧ RW w' mb (mch (.slice (some ⟨g, 0, none⟩) 1 cap) ns ex e gl da pr mn inp fu me at_ fl fr ca) ∧ w'.cell? ⟨g, 0, none⟩ = some (.int .u32 300) ∧ Fr (fun k => k = mb) w w'
theorem out_step {W w3 : World} {mb : Nat} {A : Array Value} {ob : Obj} {v0 v' : Value} (hd : RW W mb A) (hown : w3.ownsRow W.heap.size 22 1 v' (0 + 1) ([] ++ [.int .u32 300])) (hg : ((W.alloc ob).drew).grownBy w3 v0.ownBlock) (hn : v' ≠ .slice none 0 0) (hv : v0 = .slice none 0 0) :
    ∃ g cap, v' = .slice (some ⟨g, 0, none⟩) 1 cap ∧ W.heap.size ≤ g ∧ RW w3 mb A ∧ w3.cell? ⟨g, 0, none⟩ = some (.int .u32 300) ∧ Fr (fun _ => False) W w3 := by
  obtain ⟨g, cap, rfl, hb, hlt⟩ := own_form hown hn
  have hf : Fr (fun _ => False) W w3 := (fr_ald W ob).trans (Fr.of_by0' hg hv)
  refine ⟨g, cap, rfl, hb, hd.fr hf id, ?_, hf⟩
  have := World.ownsRow.cells hown (g := g) rfl 0 (.int .u32 300) rfl
  rw [Addr.add_lit] at this
  simpa using this
set_option maxRecDepth 100000 in
set_option maxHeartbeats 4000000 in
theorem exec_out (mb cb rb bb bi : Nat) (ns ex e gl da pr mn inp fu me at_ fl fr ca nx : Value) (w : World) (h : RW w mb (mch (.slice none 0 0) ns ex e gl da pr mn inp fu me at_ fl fr ca)) (hc : RW w cb (cll (.slice (some ⟨rb, 0, none⟩) 1 1) (.int .i64 0) (.pointer (some ⟨bb, 0, none⟩)) nx (.int .i64 65536) (.int .i64 (-1)))) (hr : RW w rb #[.int .u32 300]) (hi : Row w bi ins22) (n2 : cb ≠ mb) (n3 : rb ≠ mb) (n4 : bi ≠ mb) : Calls Try.prog 47 #[.pointer (some ⟨mb, 0, none⟩), .pointer (some ⟨cb, 0, none⟩), .pointer (some ⟨bi, 11, none⟩)] w (ExOutP mb cb rb bb bi ns ex e gl da pr mn inp fu me at_ fl fr ca nx w) := by
  obtain ⟨i0, hi0, hz0, hz1, hz2⟩ := info_parts infoU
  have HI := Lib.hid hi0
  have HZ0 := Lib.hid hz0
  have HZ1 := Lib.hid hz1
  have HZ2 := Lib.hid hz2
  clear hi0 hz0 hz1 hz2
  have c0 : w.cell? ⟨cb, 0, none⟩ = some (.slice (some ⟨rb, 0, none⟩) 1 1) := hc.1 0 _ rfl
  have r0 : w.cell? ⟨rb, 0, none⟩ = some (.int .u32 300) := hr.1 0 _ rfl
  have ii0 : w.cell? ⟨bi, 11, none⟩ = some (.int .i64 10) := hi 11 _ rfl
  have i2 : w.cell? ⟨bi, 13, none⟩ = some (.int .i64 0) := hi 13 _ rfl
  have d0 : w.cell? ⟨mb, 0, none⟩ = some (.slice none 0 0) := h.1 0 _ rfl
  obtain ⟨v0, hv0⟩ : ∃ v0, v0 = Value.slice none 0 0 := ⟨_, rfl⟩
  rw [← hv0] at d0
  have HV0 := Lib.hid hv0
  have HO0 : Hid (w.ownsRow w.heap.size 22 1 v0 0 []) := Lib.hid (by rw [hv0]; exact World.ownsRow_nil _ _ _ _)
  have e0 : (w.alloc (.cells #[.int .u32 300] 22)).cell? ⟨mb, 0, none⟩ = some v0 := (fr_al (Fr.refl (fun _ => False) _) _).cell d0 id
  have HH := Lib.hid h
  clear h hc hr hi hv0
  go_enter Try.func47, Try.ntmps47
  go_wp2
  go_region_law (refine step_own (by rfl) _ _ 41 rfl w.heap.size 22 i0 (.int .u32 0) 1 4 Try.underlying41 HI.out HZ0.out HZ1.out HZ2.out rfl (by decide) _ 0 [] rfl (by exact HO0.out.alloc _) ⟨w.heap.size, 0, none⟩ 1 1 [.int .u32 300] rfl rfl (one_cell w 22 (.int .u32 300)) (by simp [Value.oneCell']) (by unfold maxLen; omega) (by omega) (by simp) ?_; intro v' w3 hown3 hg3 hnil; have q := out_step HH.out hown3 hg3 (fun e => absurd (hnil.1 e).2 (by decide)) HV0.out; obtain ⟨g, cap, rfl, hb, hr3, hn3, hf3⟩ := q; have HR3 := Lib.hid hr3; have HN3 := Lib.hid hn3; have HF3 := Lib.hid hf3; have k0 : w3.cell? ⟨mb, 0, none⟩ = some (.slice none 0 0) := HR3.out.1 0 _ rfl; have zk0 : w3.frozen? ⟨mb, 0, none⟩ = false := HR3.out.2 0 (by show 0 < 15; decide); clear hr3 hn3 hf3 hown3 hg3 hnil)
  all_goals go_wp2
  all_goals go_end0
  all_goals exact ⟨rfl, g, cap, hb, HR3.out.set (i := 0) (by show 0 < 15; decide), (Fr.setCell (F := fun k => k = mb) w3 _ _ rfl).cell HN3.out (by have := HH.out.lt (by show 0 < 15; decide); show ¬ g = mb; omega), (HF3.out.mono (fun _ _ x => x.elim)).trans (Fr.setCell (F := fun k => k = mb) _ _ _ rfl)⟩
end Go.Proofs.Ytelgppoohjblnaa
