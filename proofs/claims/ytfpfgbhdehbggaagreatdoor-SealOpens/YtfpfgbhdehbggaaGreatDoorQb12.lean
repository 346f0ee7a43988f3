/-
  The tag of parts under a key. Bytes, nil or not, wherever they lie; parts one behind the other. Bytes, nil or not, appended to a slice of the call's own.
-/
import Derived.Test.YtfpfgbhdehbggaaGreatDoorQb1
import Derived.Test.YtfpfgbhdehbggaaGreatDoorQb11
import Derived.Test.YtfpfgbhdehbggaaGreatDoorQb9
import Derived.Lib.SlBytesConst
namespace Go.Proofs.YtfpfgbhdehbggaaGreatDoor
set_option maxRecDepth 20000
open Go.RowKit Go.BigFrame
def tagF (l : Nat) (key : Nat → BitVec 8) (m : Nat → BitVec 8) (n : Nat) : Nat → BitVec 8 := shaF (catF (maskF (readyF l key) 92#8) 64 (shaF (catF (maskF (readyF l key) 54#8) 64 m) (64 + n))) 96
def allF (ls : Nat → Nat) (bs : Nat → Nat → BitVec 8) (k : Nat) : Nat → BitVec 8 := joinF (fun _ => 0#8) 0 ls bs k
theorem join_all (m : Nat → BitVec 8) (n : Nat) (ls : Nat → Nat) (bs : Nat → Nat → BitVec 8) : ∀ k j, j < n + sumL ls k → joinF m n ls bs k j = catF m n (allF ls bs k) j
  | 0, j, h => by
    simp only [sumL] at h
    unfold catF
    rw [if_pos (by omega)]
    rfl
  | k + 1, j, h => by
    simp only [sumL] at h
    show catF (joinF m n ls bs k) (n + sumL ls k) (bs k) j = catF m n (catF (allF ls bs k) (0 + sumL ls k) (bs k)) j
    unfold catF
    by_cases h1 : j < n + sumL ls k
    · rw [if_pos h1, join_all m n ls bs k j h1]
      unfold catF
      by_cases h2 : j < n
      · rw [if_pos h2, if_pos h2]
      · rw [if_neg h2, if_neg h2, if_pos (by omega)]
    · rw [if_neg h1, if_neg (by omega), if_neg (by omega), show j - (n + sumL ls k) = j - n - (0 + sumL ls k) by omega]
theorem tagF_congr (l : Nat) (key m m' : Nat → BitVec 8) (n : Nat) (h : ∀ j, j < n → m j = m' j) : tagF l key m n = tagF l key m' n := by
  unfold tagF
  rw [shaF_congr (catF (maskF (readyF l key) 54#8) 64 m) (catF (maskF (readyF l key) 54#8) 64 m') (64 + n) (fun j hj => by
    unfold catF
    split
    · rfl
    · exact h _ (by omega))]
set_option maxRecDepth 20000 in
set_option maxHeartbeats 1000000 in
theorem Tag_any (v pv : Value) (l k : Nat) (key : Nat → BitVec 8) (us : Nat → Value) (ls : Nat → Nat) (bs : Nat → Nat → BitVec 8) (w : World) (h : BV v l key w) (hP : Parts pv k us ls bs w) (hC : TabC w) (hl : l ≤ 140737488351232) (hk : k ≤ 140737488351232) (hN : sumL ls k < 576460752303423488) :
    Calls Tryz.prog 40 #[v, pv] w fun e w' => e = .returned (.agg (row 32 (yv (tagF l key (allF ls bs k) (sumL ls k)))).toArray) ∧ Below w.heap.size w w' := by
  have hz := zero24
  have HR0 := hideit (RowAt.new w 32 (yv fun _ => 0#8) 22)
  have HE0 : Ext w (w.alloc (.cells (row 32 (yv fun _ => 0#8)).toArray 22)) := (Below.refl _ _).alloc (Nat.le_refl _) _
  have hbg := hideit (begin_any v l key _ (h.ext HE0) (hC.ext HE0) hl)
  have HP := hideit (hP.ext HE0)
  have HC := hideit (hC.ext HE0)
  replace HE0 := hideit HE0
  clear h hP hC
  obtain ⟨R, hR⟩ : ∃ R, R = tagF l key (allF ls bs k) (sumL ls k) := ⟨_, rfl⟩
  rw [← hR]
  replace hR := hideit hR
  go_enter Tryz.func40, Tryz.ntmps40
  go_upto_region 1 with (fail)
  generalize w.alloc (.cells (row 32 (yv fun _ => 0#8)).toArray 22) = w1 at *
  refine wp_region_lit ?_
  refine wpList_run rfl v (by simp [go_sem]) ?_
  simp only [zp0, zp1, zp2, zp3]
  refine wpList_call rfl (by simp [go_sem]) (hbg.out.mono ?_)
  rintro e w2 ⟨c1, c2, _, _, _, rfl, h1, h2, hE2⟩
  refine ⟨_, rfl, ?_⟩
  simp only [zp0, zp1, zp2, zp3]
  refine wpList_run rfl pv (by simp [go_sem]) ?_
  simp only [zp0, zp1, zp2, zp3]
  have ht := tag_any c1 c2 64 64 k _ _ pv us ls bs w2 h1 h2 (HP.out.ext hE2) (HC.out.ext hE2) hk (by omega) (by omega)
  have hRR : shaF (catF (maskF (readyF l key) 92#8) 64 (shaF (joinF (maskF (readyF l key) 54#8) 64 ls bs k) (64 + sumL ls k))) (64 + 32) = R := by
    rw [hR.out]
    unfold tagF
    rw [shaF_congr _ _ _ (join_all (maskF (readyF l key) 54#8) 64 ls bs k)]
  rw [hRR] at ht
  replace ht := hideit ht
  have HR2 := hideit (HR0.out.carry hE2)
  have HE2 := hideit (Ext.trans HE0.out hE2)
  clear hRR h1 h2 hE2 hbg HP HC HR0 HE0
  refine wpList_call rfl (by simp [go_sem]) (ht.out.mono ?_)
  rintro e w3 ⟨rfl, hw3⟩
  refine ⟨_, rfl, ?_⟩
  simp only [zp0, zp1, zp2, zp3]
  have HR3 := hideit (HR2.out.carry hw3)
  have HE3 := hideit (Ext.trans HE2.out hw3)
  clear ht hw3 HR2 HE2
  refine wpList_store_mid rfl 22 (.tmp 4) (.tmp 8) rfl _ 0 (row 32 (yv R)).toArray rfl rfl (by rw [row_size]; exact HR3.out.there) (by rw [row_size]; exact info24) (row_one fun _ _ => rfl) ?_
  go_wp2
  exact bodyPost_ret (ret_row Tryz.results40 rfl (HR3.out.cells (g' := yv R)) Tryz.underlying22 rfl info24) rfl ⟨rfl, below_setCells _ (Nat.le_refl _) _ _ _ HE3.out⟩
end Go.Proofs.YtfpfgbhdehbggaaGreatDoor
namespace Go.Proofs.YtfpfgbhdehbggaaGreatDoor
set_option maxRecDepth 20000
open Go.RowKit Go.BigFrame
theorem BV.form {v : Value} {l : Nat} {b : Nat → BitVec 8} {w : World} (h : BV v l b w) : ∃ oa cp, v = .slice oa l cp := by
  rcases h with ⟨h, h0⟩ | ⟨a, cap, h, _⟩
  · exact ⟨none, 0, by rw [h, h0]⟩
  · exact ⟨_, cap, h⟩
theorem constB (w : World) (C : Array Value) (n : Nat) (f : Nat → BitVec 8) (hC : ∀ j, j < n → C[j]? = some (yv f j)) : ∃ X, (convert 25 25 (.slice (some ⟨w.heap.size, 0, none⟩) n n)).run Tryz.prog (w.alloc (.cells C 5)) = .ok (.slice (some ⟨w.heap.size, 0, none⟩) n n) X ∧ BV (.slice (some ⟨w.heap.size, 0, none⟩) n n) n f X ∧ Ext w X :=
  ⟨_, mark_const w C n, .inr ⟨_, n, rfl, Nat.le_refl _, lie_new w n C 5 _ f hC⟩, (Below.refl _ _).alloc (Nat.le_refl _) _⟩
theorem newB (w : World) (C : Array Value) (n : Nat) (f : Nat → BitVec 8) (hC : ∀ j, j < n → C[j]? = some (yv f j)) : BV (.slice (some ⟨w.heap.size, 0, none⟩) n n) n f (w.alloc (.cells C 5)) ∧ Ext w (w.alloc (.cells C 5)) :=
  ⟨.inr ⟨_, n, rfl, Nat.le_refl _, lie_new w n C 5 (0, 0) f hC⟩, (Below.refl _ _).alloc (Nat.le_refl _) _⟩
end Go.Proofs.YtfpfgbhdehbggaaGreatDoor
namespace Go.Proofs.YtfpfgbhdehbggaaGreatDoor
open Go.RowKit Go.BigFrame
theorem grown_refl (w : World) (r : Option Nat) : w.grownBy w r := ⟨rfl, rfl, rfl, Nat.le_refl _, fun _ _ _ => rfl⟩
theorem BV.grown {v : Value} {l : Nat} {b : Nat → BitVec 8} {w X : World} {row : Option Nat} (h : BV v l b w) (hg : w.grownBy X row) (hne : ∀ k, row = some k → ∀ a n c, v = .slice (some a) n c → a.block ≠ k) : BV v l b X := by
  rcases h with h | ⟨a, cap, h1, h2, h3⟩
  · exact .inl h
  · refine .inr ⟨a, cap, h1, h2, fun j hj => ?_, Nat.lt_of_lt_of_le h3.2 hg.size⟩
    have hb := hg.block a.block h3.2 (fun e => hne a.block e.symm a l cap h1 rfl)
    exact (World.cell?_of_block (a := a.add j) (by rw [add_block]; exact hb)).trans (h3.1 j hj)
theorem wpList_growV {P : Program} {ops : Array Oper} {rest : List Oper} {o : Oper} {a : Act} {Q : Exit → Act → World → Prop} {t e : TypeId} {base n : Nat} {v : Value} {g : Nat → Value} {w : World} (E : ElemIs P t e) (hgd : o.guard = none) (s x : Operand)
    (ho : o.op = .call { callee := .builtin .append, args := #[s, x], argTypes := #[t, t] }) (hs : a.eval s = v) (hown : OwnB base e v n g w)
    (xv : Value) (l : Nat) (b : Nat → BitVec 8) (f : Nat → Value) (hx : a.eval x = xv) (hb : BV xv l b w) (hf1 : ∀ j, j < n → g j = f j) (hf2 : ∀ j, j < l → yv b j = f (n + j))
    (hbytes : n + l ≤ 140737488355328) (hbase : base ≤ w.heap.size)
    (h : ∀ v' w', OwnB base e v' (n + l) f w' → w.grownBy w' v.ownBlock → wpList P ops Q rest (a.put o.dst v') w') : wpList P ops Q (o :: rest) a w := by
  rcases hb with ⟨rfl, rfl⟩ | ⟨ad, cap, rfl, h2, h3⟩
  · exact wpList_grow_none E hgd s x ho hs hown hx (h v w (hown.congr hf1) (grown_refl _ _))
  · exact wpList_grow E hgd s x ho hs hown ad l cap (yv b) f hx h3 (fun _ _ => rfl) hf1 hf2 hbytes hbase h
end Go.Proofs.YtfpfgbhdehbggaaGreatDoor
