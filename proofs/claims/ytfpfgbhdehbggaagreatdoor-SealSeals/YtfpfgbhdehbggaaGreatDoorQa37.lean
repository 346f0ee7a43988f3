/-
  A slice of the call's own whose elements have several cells: what it holds, what keeps it, and append to it. The document's own New: the Cipher as it is built, and the types of its slices. The document's own New, for keys of 16 bytes.
-/
import Derived.Test.YtfpfgbhdehbggaaGreatDoorQa8
import Derived.Test.YtfpfgbhdehbggaaGreatDoorQa36
import Derived.Laws.Tables
import Derived.Test.YtfpfgbhdehbggaaGreatDoorQa1
import Derived.Test.YtfpfgbhdehbggaaGreatDoorQa32
import Derived.BigRegion
namespace Go.Proofs.YtfpfgbhdehbggaaGreatDoor
open Go.RowKit
def OwnN (base : Nat) (e : TypeId) (s : Nat) (v : Value) (n : Nat) (g : Nat → Value) (w : World) : Prop := w.ownsRow base e s v n (row (n * s) g)
section
variable {base : Nat} {e : TypeId} {s : Nat} {v : Value} {n : Nat} {g g' : Nat → Value} {w w' : World}
theorem OwnN.congr (h : OwnN base e s v n g w) (hg : ∀ j, j < n * s → g j = g' j) : OwnN base e s v n g' w := by
  unfold OwnN at h ⊢
  rw [← row_ext hg]
  exact h
theorem OwnN.kept {row : Option Nat} (h : OwnN base e s v n g w) (hg : w.grownBy w' row) (hne : v.ownBlock = none ∨ v.ownBlock ≠ row) : OwnN base e s v n g w' := World.ownsRow.kept h hg hne
theorem OwnN.alloc (h : OwnN base e s v n g w) (o : Obj) : OwnN base e s v n g (w.alloc o) := World.ownsRow.alloc h o
theorem OwnN.ext (h : OwnN base e s v n g w) (k : Ext w w') : OwnN base e s v n g w' :=
  World.ownsRow.kept (row := none) h ⟨Below.os k, Below.tape k, Below.output k, Below.size k, fun i hi _ => Below.block k i hi⟩ (by cases v.ownBlock <;> simp)
theorem OwnN.but {c : Nat} (h : OwnN base e s v n g w) (k : But c w w') (hc : v.ownBlock ≠ some c) : OwnN base e s v n g w' := World.ownsRow.kept h k (.inr hc)
theorem OwnN.lt (h : OwnN base e s v n g w) : ∀ k, v.ownBlock = some k → base ≤ k ∧ k < w.heap.size := World.ownsRow.lt h
theorem OwnN.lies (h : OwnN base e s v n g w) (hn : 0 < n) : ∃ b cap, v = .slice (some ⟨b, 0, none⟩) n cap ∧ base ≤ b ∧ n ≤ cap ∧ cap ≤ maxLen ∧ RowAt b (n * s) g w := by
  have h0 := h
  rcases h.2 with ⟨_, h2⟩ | ⟨b, cap, cur, rfl, hb, hg, hc, hm, _, ht⟩
  · omega
  · refine ⟨b, cap, rfl, hb, hc, hm, fun j hj => ?_, fun j hj => ?_, (Array.getElem?_eq_some_iff.1 hg).1⟩
    · have h1 := World.ownsRow.cells h0 (g := b) rfl j (g j) (row_get (n * s) g j hj)
      have hadd : (⟨b, 0, none⟩ : Addr).add j = ⟨b, j, none⟩ := by unfold Addr.add; split <;> simp_all
      rwa [hadd] at h1
    · simp [World.frozen?, hg]
theorem ownN_nil (w : World) (base : Nat) (e : TypeId) (s : Nat) (g : Nat → Value) : OwnN base e s (.slice none 0 0) 0 g w := by
  unfold OwnN
  rw [Nat.zero_mul]
  exact World.ownsRow_nil w base e s
structure ElemN (P : Program) (t e : TypeId) (s : Nat) : Prop where
  slice : P.underlying t = some (.slice e)
  info : ∃ i z, P.info? e = some i ∧ i.zero = some z ∧ i.size = s ∧ i.bytes = s ∧ z.cells.size = s
theorem wpList_growN {P : Program} {ops : Array Oper} {rest : List Oper} {o : Oper} {a : Act} {Q : Exit → Act → World → Prop} {t : TypeId} (E : ElemN P t e s) (hs0 : 0 < s) (hgd : o.guard = none) (p x : Operand)
    (ho : o.op = .call { callee := .builtin .append, args := #[p, x], argTypes := #[t, t] }) (hs : a.eval p = v) (hown : OwnN base e s v n g w)
    (ad : Addr) (m c : Nat) (u f : Nat → Value) (hx : a.eval x = .slice (some ad) m c) (hl : LieAt ad (m * s) u w) (h1 : ∀ j, j < m * s → (u j).oneCell' = true) (hf1 : ∀ j, j < n * s → g j = f j) (hf2 : ∀ j, j < m * s → u j = f (n * s + j))
    (hbytes : (n + m) * s ≤ 140737488355328) (hbase : base ≤ w.heap.size)
    (h : ∀ v' w', OwnN base e s v' (n + m) f w' → w.grownBy w' v.ownBlock → (v' = .slice none 0 0 ↔ v = .slice none 0 0 ∧ m = 0) → wpList P ops Q rest (a.put o.dst v') w') : wpList P ops Q (o :: rest) a w := by
  obtain ⟨i, z, e1, e2, e3, e4, e5⟩ := E.info
  have hle : n + m ≤ (n + m) * s := Nat.le_mul_of_pos_right _ hs0
  refine wpList_append_own w hgd p x t ho base e i z s s E.slice e1 e2 e3 e4 e5 hs0 v n (row (n * s) g) hs hown ad m c (row (m * s) u) hx (row_length _ _) (fun j w0 hj => ?_) (fun w0 hw0 => ?_) (by unfold maxLen; omega) hbytes hbase fun v' w' h2 h3 h4 => h v' w' ?_ h3 h4
  · obtain ⟨hj', rfl⟩ := row_some hj
    exact hl.1 j hj'
  · obtain ⟨j, hj, rfl⟩ := List.mem_map.1 hw0
    exact h1 j (by simpa using hj)
  · unfold OwnN
    rwa [row_append (n * s) (m * s) g u f hf1 hf2, ← Nat.add_mul] at h2
end
theorem elem_n {P : Program} {t e : TypeId} {s : Nat} (hs : P.underlying t = some (.slice e)) (h1 : (P.info? e).map (·.size) = some s) (h2 : (P.info? e).map (·.bytes) = some s) (h3 : ((P.info? e).bind (·.zero)).map (·.cells.size) = some s) : ElemN P t e s := by
  refine ⟨hs, ?_⟩
  cases hi : P.info? e with
  | none => rw [hi] at h1; cases h1
  | some i =>
    rw [hi] at h1 h2 h3
    simp only [Option.map_some, Option.some.injEq, Option.bind_some] at h1 h2 h3
    cases hz : i.zero with
    | none => rw [hz] at h3; cases h3
    | some z =>
      rw [hz] at h3
      simp only [Option.map_some, Option.some.injEq] at h3
      exact ⟨i, z, rfl, hz, h1, h2, h3⟩
end Go.Proofs.YtfpfgbhdehbggaaGreatDoor
namespace Go.Proofs.YtfpfgbhdehbggaaGreatDoor
set_option maxRecDepth 20000
open Go.RowKit
set_option maxRecDepth 100000 in
theorem built39 (b : Nat → BitVec 8) : Tryz.prog.built 127 [(1, .agg (row 256 (yv b)).toArray)] = some (row 513 (rcv b (fun _ => 0#8))).toArray := by kernel_rfl
theorem build39B (b : Nat → BitVec 8) (w : World) : (Instr.build 127 #[(1, .agg (row 256 (yv b)).toArray)]).run Tryz.prog w = .ok (.agg (row 513 (rcv b (fun _ => 0#8))).toArray) w := run_build w 127 _ _ (built39 b)
theorem elem63 : ElemN Tryz.prog 128 129 4 := elem_n Tryz.underlying128 (by kernel_rfl) (by kernel_rfl) (by kernel_rfl)
theorem elem36 : ElemN Tryz.prog 125 52 16 := elem_n Tryz.underlying125 (by kernel_rfl) (by kernel_rfl) (by kernel_rfl)
theorem lie_row {b n : Nat} {g : Nat → Value} {w : World} (h : RowAt b n g w) : LieAt ⟨b, 0, none⟩ n g w := ⟨fun j hj => by
  have hadd : (⟨b, 0, none⟩ : Addr).add j = ⟨b, j, none⟩ := by unfold Addr.add; split <;> simp_all
  rw [hadd]
  exact h.1 j hj, h.2.2⟩
theorem grown_extB {w X Y : World} {row : Option Nat} (h : Ext w X) (hg : X.grownBy Y row) (hr : ∀ k, row = some k → w.heap.size ≤ k) : Ext w Y := Below.trans h (below_grown (Below.size h) hg hr)
end Go.Proofs.YtfpfgbhdehbggaaGreatDoor
namespace Go.Proofs.YtfpfgbhdehbggaaGreatDoor
set_option maxRecDepth 20000
open Go.RowKit Go.BigFrame
def KyAt (w : World) (c vb B5 M : Nat) (W : Nat → BitVec 8) (vk : Value) (n : Nat) (X : World) : Prop :=
  RowAt c 513 (fun j => if j = 0 then vk else rcv bxT ubT j) X ∧ RowAt vb (4 * M) (yv W) X ∧ OwnN B5 52 16 vk n (yv W) X ∧ Ext w X ∧ B5 ≤ X.heap.size
theorem bslice36 (d : Nat → BitVec 8) (w : World) : (Instr.buildSlice 125 1 #[(0, .agg (row 16 (yv d)).toArray)]).run Tryz.prog w = .ok (.slice (some ⟨w.heap.size, 0, none⟩) 1 1) (w.alloc (.cells (row 16 (yv d)).toArray 52)) := by kernel_rfl
theorem exec_bslice {P : Program} {ρ : Operand → Value} {o : Oper} {w w' : World} {v : Value} (t : TypeId) (n : Nat) (l : List (Nat × Operand)) (ho : o.op = .buildSlice t n l.toArray) (hr : (Instr.buildSlice t n (l.map fun x => (x.1, ρ x.2)).toArray).run P w = .ok v w') : (execOp ρ o).run P w = .ok (.value v) w' := by
  unfold execOp
  simp [ho, hr]
theorem ubP_all : ubP 256 = ubT := by
  funext j
  unfold ubP
  rw [if_pos (ubT j).isLt]
def UnAt (w : World) (c n : Nat) (X : World) : Prop := RowAt c 513 (rcv bxT (ubP n)) X ∧ Ext w X ∧ w.heap.size ≤ c
set_option maxRecDepth 20000 in
set_option maxHeartbeats 4000000 in
theorem rnew4_any (a : Addr) (cap : Nat) (key : Nat → BitVec 8) (w : World) (hk : KeyAt a 16 key w) :
    Calls Tryz.prog 41 #[.slice (some a) 16 cap] w fun e w' => ∃ c kb cp, e = .returned (.tuple #[.pointer (some ⟨c, 0, none⟩), .int .i64 0]) ∧ RCip c kb cp 11 (wordsF 4 bxT twT key) bxT ubT w' ∧ Below w.heap.size w w' ∧ w.heap.size ≤ c ∧ w.heap.size ≤ kb := by
  replace hk := hideit hk
  go_enter Tryz.func41, Tryz.ntmps41
  go_upto_region 4 with (fail)
  refine wp_region_lit ?_
  refine wpList_call rfl (by simp [go_sem]) ((rboxes_any _).mono ?_)
  rintro e w2 ⟨rfl, hw2⟩
  refine ⟨_, rfl, ?_⟩
  simp only [zp0, zp1, zp2, zp3]
  refine wpList_build rfl 127 [(1, .tmp 27)] rfl _ (build39B bxT w2) ?_
  simp only [zp0, zp1, zp2, zp3]
  have HU : UnAt w w2.heap.size 0 (w2.alloc (.cells (row 513 (rcv bxT (fun _ => 0#8))).toArray 127)) := by
    refine ⟨(RowAt.new w2 513 (rcv bxT (fun _ => 0#8)) 127).congr fun j hj => ?_, Ext.trans hw2 ((Below.refl _ _).alloc (Nat.le_refl _) _), Below.size hw2⟩
    simp [rcv, yv, ubP]
  replace HU := hideit HU
  generalize hc : w2.heap.size = c at *
  go_wp2
  go_loopw [6] (fun i wr => ∃ n : Nat, n ≤ 256 ∧ i = .int .i64 (n : Int) ∧ UnAt w c n wr) (fun i _ => 256 - (intOf i).toNat)
  case atStart => exact ⟨0, by omega, rfl, HU.out⟩
  case round =>
    clear HU
    obtain ⟨n, hn, rfl, hT⟩ := hrel
    by_cases hlt : n < 256
    · have HT := hideit hT
      have hb := (bxT n).isLt
      have e1 : wr.cell? ⟨c, 1 + n, none⟩ = some (.int .u8 ((bxT n).toNat : Int)) := by
        have h := hT.1.1 (1 + n) (by omega)
        unfold rcv at h
        rw [if_neg (by omega), if_pos (by omega)] at h
        rw [h]; simp [yv]
      have e2 := hT.1.1 (257 + (bxT n).toNat) (by omega)
      have g2 := hT.1.2.1 (257 + (bxT n).toNat) (by omega)
      clear hT
      have i0 : (0 : Int) ≤ (n : Int) := by omega
      have i1 : (n : Int) < 256 := by omega
      have i2 : ((bxT n).toNat : Int) < 256 := by omega
      have i3 : (n : Int) % 256 = (n : Int) := by omega
      generalize hbb : (bxT n).toNat = bb at *
      replace hbb := hideit hbb
      go_upto_region 8 with (fail)
      go_region
      have HS := hideit (RowAt.set HT.out.1 (257 + bb) (.int .u8 (n : Int)))
      have HI : UnAt w c (n + 1) (wr.setCell ⟨c, 257 + bb, none⟩ (.int .u8 (n : Int))).drew := by
        refine ⟨(RowAt.congr HS.out fun j hj => ?_).drew, Below.drew (Below.setCell HT.out.2.1 (by show w.heap.size ≤ c; exact HT.out.2.2) _), HT.out.2.2⟩
        have h := rcv_step n hlt j hj
        rw [hbb.out] at h
        exact h
      replace HI := hideit HI
      clear HT e1 e2 g2 HS
      go_wp2
      refine ⟨⟨n + 1, by omega, by go_num, HI.out⟩, by simp [intOf]; omega⟩
    · obtain rfl : n = 256 := by omega
      have HU : UnAt w c 256 wr := hT
      replace HU := hideit HU
      clear hT
      go_upto_region 11 with (fail)
      go_loopw [7, 8] (fun v i wr => ∃ q : Nat, q ≤ 4 ∧ i = .int .i64 (q : Int) ∧ UnAt w c 256 wr ∧ OwnN (c + 1) 129 4 v q (yv key) wr) (fun _ i _ => 4 - (intOf i).toNat)
      case atStart => exact ⟨0, by omega, rfl, HU.out, ownN_nil _ _ _ _ _⟩
      case round =>
        clear HU
        obtain ⟨q, hq, rfl, hT, hO⟩ := hrel
        have HT := hideit hT
        have HO := hideit hO
        clear hT hO
        by_cases hlt2 : q < 4
        · have q0 : (0 : Int) ≤ (q : Int) := by omega
          have q1 : (q : Int) < 4 := by omega
          have hkk : ∀ (k : Kept (Ext wr.drew)) (j : Nat), j < 16 → k.w.cell? (a.add j) = some (.int .u8 ((key j).toNat : Int)) := fun k j hj => (KeyAt.carry (KeyAt.carry hk.out HT.out.2.1) (Ext.trans ((Below.refl _ _).drew) k.ok)).1 j hj
          have e0 : ∀ k : Kept (Ext wr.drew), k.w.cell? (a.add (4 * q)) = some (.int .u8 ((key (4 * q)).toNat : Int)) := fun k => hkk k _ (by omega)
          have e1 : ∀ k : Kept (Ext wr.drew), k.w.cell? ⟨a.block, a.off + (4 * q + 1), none⟩ = some (.int .u8 ((key (4 * q + 1)).toNat : Int)) := fun k => by
            have h := hkk k (4 * q + 1) (by omega)
            unfold Addr.add at h
            rw [if_neg (by omega)] at h
            exact h
          have e2 : ∀ k : Kept (Ext wr.drew), k.w.cell? ⟨a.block, a.off + (4 * q + 2), none⟩ = some (.int .u8 ((key (4 * q + 2)).toNat : Int)) := fun k => by
            have h := hkk k (4 * q + 2) (by omega)
            unfold Addr.add at h
            rw [if_neg (by omega)] at h
            exact h
          have e3 : ∀ k : Kept (Ext wr.drew), k.w.cell? ⟨a.block, a.off + (4 * q + 3), none⟩ = some (.int .u8 ((key (4 * q + 3)).toNat : Int)) := fun k => by
            have h := hkk k (4 * q + 3) (by omega)
            unfold Addr.add at h
            rw [if_neg (by omega)] at h
            exact h
          clear hkk
          have hne := kept_ne wr.drew
          go_upto_region 13 with (fail)
          refine wp_region_mixn 25 2 _ _ rfl rfl (by kernel_rfl) (by kernel_rfl) (by decide +kernel) (by decide +kernel) (by decide +kernel) (by decide +kernel) ?_
          simp only [List.take_succ_cons, List.take_zero]
          refine wpStrong_run 25 rfl ?_
          simp only [List.take_succ_cons, List.take_zero, List.drop_succ_cons, List.drop_zero]
          repeat (go_big_quiet_step (fail))
          refine wpQuiet_nil ?_
          refine wpStrong_nil ?_
          clear e0 e1 e2 e3 hne
          refine ⟨4, yv (fun j => key (4 * q + j)), fun b => .slice (some ⟨b, 0, none⟩) 1 1, ⟨rfl, fun X hX => ⟨#[.int .u8 ((key (4 * q)).toNat : Int), .int .u8 ((key (4 * q + 1)).toNat : Int), .int .u8 ((key (4 * q + 2)).toNat : Int), .int .u8 ((key (4 * q + 3)).toNat : Int)], 129, ?_, fun j hj => ?_⟩⟩, fun b X hb hX hR => ?_⟩
          · simp [go_sem]
          · rcases (by omega : j = 0 ∨ j = 1 ∨ j = 2 ∨ j = 3) with rfl | rfl | rfl | rfl <;> rfl
          have hX' : Ext wr X := Ext.trans ((Below.refl _ _).drew) hX
          have HU2 : UnAt w c 256 X := ⟨HT.out.1.carry hX', Ext.trans HT.out.2.1 hX', HT.out.2.2⟩
          have HO2 := HO.out.ext hX'
          simp only [zp0, zp1, zp2, zp3]
          refine wpList_growN elem63 (by decide) rfl (.tmp 51) (.tmp 76) rfl rfl HO2 ⟨b, 0, none⟩ 1 1 (yv fun j => key (4 * q + j)) (yv key) rfl (lie_row hR) (fun _ _ => rfl) (fun _ _ => rfl) (fun j hj => by simp only [yv]; rw [Nat.mul_comm 4 q]) (by omega) HU2.1.2.2 ?_
          intro v3 w3 ho hg hz
          have HU3 : UnAt w c 256 w3 := ⟨RowAt.grown HU2.1 hg (fun h => by have := (HO2.lt c h.symm).1; omega), grown_extB HU2.2.1 hg (fun k h => by have := (HO2.lt k h).1; have := HU2.2.2; omega), HU2.2.2⟩
          replace HU3 := hideit HU3
          replace ho := hideit ho
          clear hg hz HU2 HO2 hR hX hX' hb HT HO
          simp only [zp0, zp1, zp2, zp3]
          go_wp2
          refine ⟨⟨q + 1, by omega, by go_num, HU3.out, ho.out⟩, by simp [intOf]; omega⟩
        · obtain rfl : q = 4 := by omega
          go_upto_region 16 with (fail)
          have HO0 : OwnN (c + 1) 129 4 u7 4 (yv (wordK 4 bxT twT key 0).1) wr := HO.out.congr fun j hj => by
            show yv key j = yv (fun j => if j < 4 * 4 then key j else 0#8) j
            simp only [yv]
            rw [if_pos (by omega)]
          replace HO0 := hideit HO0
          clear HO
          go_loopw [7, 9, 10] (fun v u i wr => ∃ m : Nat, m ≤ 40 ∧ i = .int .i64 ((m : Int) + 4) ∧ u = .int .u8 ((wordK 4 bxT twT key m).2.toNat : Int) ∧ UnAt w c 256 wr ∧ OwnN (c + 1) 129 4 v (m + 4) (yv (wordK 4 bxT twT key m).1) wr) (fun _ _ i _ => 200 - (intOf i).toNat)
          case atStart => exact ⟨0, by omega, rfl, rfl, HT.out, HO0.out⟩
          case round =>
            clear HT HO0
            obtain ⟨m, hm, rfl, rfl, hT, hO⟩ := hrel
            have HT := hideit hT
            have HO := hideit hO
            clear hT hO
            by_cases hlt3 : m < 40
            · obtain ⟨cq, hcq⟩ : ∃ cq, cq = (wordK 4 bxT twT key m).2 := ⟨_, rfl⟩
              obtain ⟨S, hS⟩ : ∃ S, S = (wordK 4 bxT twT key m).1 := ⟨_, rfl⟩
              rw [← hcq]
              rw [← hS] at HO
              replace hcq := hideit hcq
              replace hS := hideit hS
              obtain ⟨vb, vcap, hvA, hvb, hvc, hvm, hR⟩ := HO.out.lies (by omega)
              subst hvA
              have HR := hideit hR
              have m0 : (0 : Int) ≤ (m : Int) := by omega
              have m1 : (m : Int) < 40 := by omega
              have hz4 := zero63'
              obtain ⟨f, hf⟩ : ∃ f : Nat → BitVec 8, ∀ j, f j = S (4 * (m + 4 - 1) + j) := ⟨_, fun _ => rfl⟩
              have HRg : wr.rangeAt vb ((m + 4 - 1) * 4) (row 4 (yv f)) := fun j v hvA => by
                obtain ⟨hj, rfl⟩ := row_some hvA
                rw [HR.out.1 ((m + 4 - 1) * 4 + j) (by omega)]
                simp only [yv, hf, Nat.mul_comm (m + 4 - 1) 4]
              replace HRg := hideit HRg
              replace hf := hideit hf
              clear hR hvm
              obtain ⟨b, hbe⟩ : ∃ b, b = wr.heap.size := ⟨_, rfl⟩
              have HN : RowAt b 4 (yv fun _ => 0#8) (wr.alloc (.cells (row 4 (yv fun _ => 0#8)).toArray 129)) := by rw [hbe]; exact RowAt.new wr 4 (yv fun _ => 0#8) 129
              replace HN := hideit HN
              go_upto_region 19 with (first | (refine wpList_load_mid rfl 129 (.tmp 89) rfl _ ((m + 4 - 1) * 4) rfl (row 4 (yv f)) _ HRg.out Tryz.underlying129 rfl (by rw [row_length]; exact info63) ?_) | (rw [← hbe]; refine wpList_store_mid rfl 129 (.tmp 11) (.tmp 90) rfl _ 0 (row 4 (yv f)).toArray rfl rfl (by rw [row_size]; exact HN.out.there) (by rw [row_size]; exact info63) (row_one fun _ _ => rfl) ?_))
              simp only [Act.put]
              have hcb : c < b := by have := HT.out.1.2.2; omega
              have hvbb : vb < b := by have := HR.out.2.2; omega
              have HEx : Ext wr (wr.alloc (.cells (row 4 (yv fun _ => 0#8)).toArray 129)) := (Below.refl _ _).alloc (Nat.le_refl _) _
              have HBu : But b (wr.alloc (.cells (row 4 (yv fun _ => 0#8)).toArray 129)) ((wr.alloc (.cells (row 4 (yv fun _ => 0#8)).toArray 129)).setCells b 0 (row 4 (yv f))) := But.sets _ 0 _ (But.refl _ _)
              have HY : UnAt w c 256 ((wr.alloc (.cells (row 4 (yv fun _ => 0#8)).toArray 129)).setCells b 0 (row 4 (yv f))) := ⟨RowAt.but (HT.out.1.carry HEx) HBu (by omega), Ext.but (Ext.trans HT.out.2.1 HEx) HBu (by have := HT.out.2.2; omega), HT.out.2.2⟩
              have HO2 := (HO.out.ext HEx).but HBu (by simp only [Value.ownBlock]; intro h; cases h; omega)
              have HW := HN.out.cells (g' := yv f)
              replace HY := hideit HY
              replace HO2 := hideit HO2
              replace HW := hideit HW
              clear HN HRg HT HEx HBu hbe HO HR hz4
              generalize (wr.alloc (.cells (row 4 (yv fun _ => 0#8)).toArray 129)).setCells b 0 (row 4 (yv f)) = Y at *
              obtain ⟨z, hz0⟩ : ∃ z : Nat, z = (m + 4) % 4 := ⟨_, rfl⟩
              have ht : ((m : Int) + 4).tmod 4 = (z : Int) := by
                rw [Int.tmod_eq_emod_of_nonneg (by omega), hz0]
                omega
              replace hz0 := hideit hz0
              by_cases hzz : z = 0
              · subst hzz
                have hbx : ∀ (k : Kept (Ext Y.drew)) (j : Nat), k.w.cell? ⟨c, 1 + (f j).toNat, none⟩ = some (.int .u8 ((bxT (f j).toNat).toNat : Int)) := fun k j => by
                  have h := (HY.out.1.drew.carry k.ok).1 (1 + (f j).toNat) (by have := (f j).isLt; omega)
                  unfold rcv at h
                  rw [if_neg (by omega), if_pos (by have := (f j).isLt; omega)] at h
                  rw [h]; simp [yv]
                have e0 : ∀ k : Kept (Ext Y.drew), k.w.cell? ⟨b, 0, none⟩ = some (.int .u8 ((f 0).toNat : Int)) := fun k => (HW.out.drew.carry k.ok).1 0 (by omega)
                have e1 : ∀ k : Kept (Ext Y.drew), k.w.cell? ⟨b, 1, none⟩ = some (.int .u8 ((f 1).toNat : Int)) := fun k => (HW.out.drew.carry k.ok).1 1 (by omega)
                have e2 : ∀ k : Kept (Ext Y.drew), k.w.cell? ⟨b, 2, none⟩ = some (.int .u8 ((f 2).toNat : Int)) := fun k => (HW.out.drew.carry k.ok).1 2 (by omega)
                have e3 : ∀ k : Kept (Ext Y.drew), k.w.cell? ⟨b, 3, none⟩ = some (.int .u8 ((f 3).toNat : Int)) := fun k => (HW.out.drew.carry k.ok).1 3 (by omega)
                have x0 := fun k => hbx k 0
                have x1 := fun k => hbx k 1
                have x2 := fun k => hbx k 2
                have x3 := fun k => hbx k 3
                clear hbx
                have l0 : ((f 0).toNat : Int) < 256 := by have := (f 0).isLt; omega
                have l1 : ((f 1).toNat : Int) < 256 := by have := (f 1).isLt; omega
                have l2 : ((f 2).toNat : Int) < 256 := by have := (f 2).isLt; omega
                have l3 : ((f 3).toNat : Int) < 256 := by have := (f 3).isLt; omega
                have o2 : bits .xor .u8 ((bxT (f 1).toNat).toNat : Int) (cq.toNat : Int) = ((xB (bxT (f 1).toNat) cq).toNat : Int) := xB_fact _ _
                go_upto_region 20 with (fail)
                have hne := kept_ne Y.drew
                refine wp_region_late 31 (by kernel_rfl) (by kernel_rfl) (by decide) ?_
                simp only [List.take_succ_cons, List.take_zero, List.drop_succ_cons, List.drop_zero]
                refine wpStrong_run 31 rfl ?_
                simp only [List.take_succ_cons, List.take_zero, List.drop_succ_cons, List.drop_zero]
                repeat (go_big_quiet_step (fail))
                refine wpQuiet_nil ?_
                refine wpStrong_nil ?_
                intro X hX
                clear e0 e1 e2 e3 x0 x1 x2 x3 hne
                obtain ⟨g, hg⟩ : ∃ g : Nat → BitVec 8, g = wordAt 4 bxT (m + 4) S cq := ⟨_, rfl⟩
                have hgb : Value.agg #[.int .u8 ((xB (bxT (f 1).toNat) cq).toNat : Int), .int .u8 ((bxT (f 2).toNat).toNat : Int), .int .u8 ((bxT (f 3).toNat).toNat : Int), .int .u8 ((bxT (f 0).toNat).toNat : Int)] = .agg (row 4 (yv g)).toArray := by
                  rw [show row 4 (yv g) = [yv g 0, yv g 1, yv g 2, yv g 3] from rfl, hg]
                  have hp : (m + 4) % 4 = 0 := hz0.out.symm
                  simp only [yv, wordAt, hp, if_true, hf.out]
                  simp
                have HX : UnAt w c 256 X := ⟨HY.out.1.drew.carry hX, Ext.trans HY.out.2.1.drew hX, HY.out.2.2⟩
                have HOX := HO2.out.ext (Ext.trans ((Below.refl _ _).drew) hX)
                have HWX := HW.out.drew.carry hX
                replace HX := hideit HX
                replace HOX := hideit HOX
                replace HWX := hideit HWX
                replace hg := hideit hg
                refine wpList_store_mid rfl 129 (.tmp 11) (.tmp 125) rfl _ 0 (row 4 (yv g)).toArray rfl hgb (by rw [row_size]; exact HWX.out.there) (by rw [row_size]; exact info63) (row_one fun _ _ => rfl) ?_
                simp only [Act.put]
                have HBu : But b X (X.setCells b 0 (row 4 (yv g))) := But.sets _ 0 _ (But.refl _ _)
                have HY3 : UnAt w c 256 (X.setCells b 0 (row 4 (yv g))) := ⟨RowAt.but HX.out.1 HBu (by omega), Ext.but HX.out.2.1 HBu (by have := HX.out.2.2; omega), HX.out.2.2⟩
                have HO3 := HOX.out.but HBu (by simp only [Value.ownBlock]; intro h; cases h; omega)
                have HW3 := HWX.out.cells (g' := yv g)
                replace HY3 := hideit HY3
                replace HO3 := hideit HO3
                replace HW3 := hideit HW3
                clear HX HOX HWX hX HBu HY HO2 HW hgb
                generalize X.setCells b 0 (row 4 (yv g)) = Y3 at *
                have hmu := rmul_below cq 2#8
                have h2n : ((2#8 : BitVec 8).toNat : Int) = 2 := rfl
                rw [h2n] at hmu
                replace hmu := hideit hmu
                go_upto_region 25 with (go_at_call 72; refine (hmu.out _).mono ?_; rintro e w5 ⟨rfl, hw5⟩; have HY5 : Hid (UnAt w c 256 w5) := hideit ⟨HY3.out.1.carry hw5, Ext.trans HY3.out.2.1 hw5, HY3.out.2.2⟩; have HO5 := hideit (HO3.out.ext hw5); have HW5 := hideit (HW3.out.carry hw5); clear hw5 HY3 HO3 HW3)
                have H9 : Value.int .u8 ((mB cq 2#8).toNat : Int) = .int .u8 ((wordK 4 bxT twT key (m + 1)).2.toNat : Int) := by
                  have h2 : (wordK 4 bxT twT key (m + 1)).2 = if (m + 4) % 4 = 0 then twT (wordK 4 bxT twT key m).2.toNat else (wordK 4 bxT twT key m).2 := rfl
                  rw [h2, if_pos hz0.out.symm, ← hcq.out]
                  simp [twT]
                replace H9 := hideit H9
                go_loopw [12] (fun i wr => ∃ r : Nat, r ≤ 4 ∧ i = .int .i64 (r : Int) ∧ UnAt w c 256 wr ∧ OwnN (c + 1) 129 4 (.slice (some ⟨vb, 0, none⟩) (m + 4) vcap) (m + 4) (yv S) wr ∧ RowAt b 4 (yv fun j => if j < r then xB (S (4 * m + j)) (g j) else g j) wr) (fun i _ => 4 - (intOf i).toNat)
                case atStart => exact ⟨0, by omega, rfl, HY5.out, HO5.out, HW5.out.congr fun j _ => by simp only [yv]; rw [if_neg (by omega)]⟩
                case round =>
                  clear HY5 HO5 HW5
                  obtain ⟨r, hr, rfl, hA, hB, hD⟩ := hrel
                  have HA := hideit hA
                  have HB := hideit hB
                  have HD := hideit hD
                  by_cases hr4 : r < 4
                  · have r0 : (0 : Int) ≤ (r : Int) := by omega
                    have r1 : (r : Int) < 4 := by omega
                    have e1 : wr.cell? ⟨b, r, none⟩ = some (.int .u8 ((g r).toNat : Int)) := by
                      have h := hD.1 r hr4
                      simp only [yv] at h
                      rwa [if_neg (by omega)] at h
                    have g1 := hD.2.1 r hr4
                    have e2 : wr.cell? ⟨vb, m * 4 + r, none⟩ = some (.int .u8 ((S (4 * m + r)).toNat : Int)) := by
                      obtain ⟨vb', vc', hvA, _, _, _, hR⟩ := hB.lies (by omega)
                      cases hvA
                      have h := hR.1 (m * 4 + r) (by omega)
                      rw [h]; simp only [yv]; rw [Nat.mul_comm m 4]
                    have o3 : bits .xor .u8 ((g r).toNat : Int) ((S (4 * m + r)).toNat : Int) = ((xB (S (4 * m + r)) (g r)).toNat : Int) := by
                      rw [show xB (S (4 * m + r)) (g r) = xB (g r) (S (4 * m + r)) from BitVec.xor_comm _ _]; exact xB_fact _ _
                    clear hA hB hD
                    go_upto_region 27 with (fail)
                    go_region
                    have HBu : But b wr (wr.setCell ⟨b, r, none⟩ (.int .u8 ((xB (S (4 * m + r)) (g r)).toNat : Int))).drew := But.drew (but_setCell _ _ _ _)
                    have HA2 : UnAt w c 256 (wr.setCell ⟨b, r, none⟩ (.int .u8 ((xB (S (4 * m + r)) (g r)).toNat : Int))).drew := ⟨RowAt.but HA.out.1 HBu (by omega), Ext.but HA.out.2.1 HBu (by have := HA.out.2.2; omega), HA.out.2.2⟩
                    have HB2 := HB.out.but HBu (by simp only [Value.ownBlock]; intro h; cases h; omega)
                    have HD2 := (RowAt.set HD.out r (.int .u8 ((xB (S (4 * m + r)) (g r)).toNat : Int))).drew
                    replace HA2 := hideit HA2
                    replace HB2 := hideit HB2
                    replace HD2 := hideit HD2
                    clear HA HB HD HBu e1 g1 e2
                    generalize (wr.setCell ⟨b, r, none⟩ (.int .u8 ((xB (S (4 * m + r)) (g r)).toNat : Int))).drew = Y6 at *
                    go_wp2
                    refine ⟨⟨r + 1, by omega, by go_num, HA2.out, HB2.out, HD2.out.congr fun j hj => ?_⟩, by simp [intOf]; omega⟩
                    simp only [yv]
                    by_cases e : j = r
                    · subst e; rw [if_pos rfl, if_pos (by omega)]
                    · rw [if_neg e]
                      by_cases h : j < r
                      · rw [if_pos h, if_pos (by omega)]
                      · rw [if_neg h, if_neg (by omega)]
                  · obtain rfl : r = 4 := by omega
                    go_upto_region 28 with (fail)
                    clear hA hB hD
                    obtain ⟨d, hd⟩ : ∃ d : Nat → BitVec 8, ∀ j, j < 4 → d j = xB (S (4 * m + j)) (g j) := ⟨fun j => xB (S (4 * m + j)) (g j), fun _ _ => rfl⟩
                    have HD4 : Hid (RowAt b 4 (yv d) wr) := hideit (HD.out.congr fun j hj => by simp only [yv]; rw [if_pos hj, hd j hj])
                    replace hd := hideit hd
                    clear HD
                    refine wp_region_lit ?_
                    refine wpList_run rfl (.slice (some ⟨vb, 0, none⟩) (m + 4) vcap) (by simp [go_sem]) ?_
                    simp only [zp0, zp1, zp2, zp3]
                    refine wpList_load_mid rfl 129 (.tmp 11) rfl _ 0 rfl (row 4 (yv d)) _ (HD4.out.range) Tryz.underlying129 rfl (by rw [row_length]; exact info63) ?_
                    simp only [zp0, zp1, zp2, zp3]
                    refine wpList_to rfl (.slice (some ⟨wr.heap.size, 0, none⟩) 1 1) (wr.alloc (.cells (row 4 (yv d)).toArray 129)) (by rw [show row 4 (yv d) = [yv d 0, yv d 1, yv d 2, yv d 3] from rfl]; simp [go_sem]) ?_
                    simp only [zp0, zp1, zp2, zp3]
                    have HEx : Ext wr (wr.alloc (.cells (row 4 (yv d)).toArray 129)) := (Below.refl _ _).alloc (Nat.le_refl _) _
                    have HA7 : UnAt w c 256 (wr.alloc (.cells (row 4 (yv d)).toArray 129)) := ⟨HA.out.1.carry HEx, Ext.trans HA.out.2.1 HEx, HA.out.2.2⟩
                    have HB7 := HB.out.ext HEx
                    refine wpList_growN elem63 (by decide) rfl (.tmp 182) (.tmp 184) rfl rfl HB7 ⟨wr.heap.size, 0, none⟩ 1 1 (yv d) (yv (partS 4 (m + 4) g S 4)) rfl (lie_row (RowAt.new wr 4 (yv d) 129)) (fun _ _ => rfl) (fun j hj => by simp only [yv, partS]; rw [if_neg (by omega)]) (fun j hj => by simp only [yv, partS]; rw [if_pos (by omega), hd.out j (by omega), show (m + 4) * 4 + j - 4 * 4 = 4 * m + j by omega, show (m + 4) * 4 + j - 4 * (m + 4) = j by omega]) (by omega) HA7.1.2.2 ?_
                    intro v9 w9 ho hgr hz9
                    have HA9 : UnAt w c 256 w9 := ⟨RowAt.grown HA7.1 hgr (fun h => by have := (HB7.lt c h.symm).1; omega), grown_extB HA7.2.1 hgr (fun k h => by have := (HB7.lt k h).1; have := HA7.2.2; omega), HA7.2.2⟩
                    replace HA9 := hideit HA9
                    replace ho := hideit ho
                    clear hgr hz9 HA7 HB7 HEx HA HB HD4 hd
                    simp only [zp0, zp1, zp2, zp3]
                    have HQ : OwnN (c + 1) 129 4 v9 (m + 1 + 4) (yv (wordK 4 bxT twT key (m + 1)).1) w9 := by
                      rw [show m + 1 + 4 = m + 4 + 1 by omega]
                      have hw1 : (wordK 4 bxT twT key (m + 1)).1 = partS 4 (m + 4) g S 4 := by
                        show partS 4 (m + 4) (wordAt 4 bxT (m + 4) (wordK 4 bxT twT key m).1 (wordK 4 bxT twT key m).2) (wordK 4 bxT twT key m).1 4 = _
                        rw [← hcq.out, ← hS.out, ← hg.out]
                      rw [hw1]
                      exact ho.out
                    replace HQ := hideit HQ
                    clear ho
                    go_wp2
                    go_roundw
                    case rel =>
                      have HQ' := HQ.out
                      have H9' := H9.out
                      first | exact ⟨(m + 1 : Nat), by omega, by go_num, H9', HA9.out, HQ'⟩ | ((repeat apply Exists.intro); exact ⟨⟨m + 1, by omega, by go_num, H9', HA9.out, HQ'⟩, rfl⟩)
                    case measure => simp [intOf]; omega
              · have hzb : ((z : Int) == 0) = false := by rw [beq_eq_false_iff_ne]; omega
                have hpz : Hid (¬ (m + 4) % 4 = 0) := by have := hz0.out; exact fun h => hzz (by omega)
                have H9 : Value.int .u8 (cq.toNat : Int) = .int .u8 ((wordK 4 bxT twT key (m + 1)).2.toNat : Int) := by
                  have h2 : (wordK 4 bxT twT key (m + 1)).2 = if (m + 4) % 4 = 0 then twT (wordK 4 bxT twT key m).2.toNat else (wordK 4 bxT twT key m).2 := rfl
                  rw [h2, if_neg hpz.out, ← hcq.out]
                replace H9 := hideit H9
                have hg : f = wordAt 4 bxT (m + 4) S cq := by
                  funext j
                  unfold wordAt
                  rw [if_neg hpz.out, if_neg (by omega), hf.out]
                replace hg := hideit hg
                clear hf
                generalize f = g at *
                go_upto_region 25 with (fail)
                go_loopw [12] (fun i wr => ∃ r : Nat, r ≤ 4 ∧ i = .int .i64 (r : Int) ∧ UnAt w c 256 wr ∧ OwnN (c + 1) 129 4 (.slice (some ⟨vb, 0, none⟩) (m + 4) vcap) (m + 4) (yv S) wr ∧ RowAt b 4 (yv fun j => if j < r then xB (S (4 * m + j)) (g j) else g j) wr) (fun i _ => 4 - (intOf i).toNat)
                case atStart => exact ⟨0, by omega, rfl, HY.out, HO2.out, HW.out.congr fun j _ => by simp only [yv]; rw [if_neg (by omega)]⟩
                case round =>
                  clear HY HO2 HW
                  obtain ⟨r, hr, rfl, hA, hB, hD⟩ := hrel
                  have HA := hideit hA
                  have HB := hideit hB
                  have HD := hideit hD
                  by_cases hr4 : r < 4
                  · have r0 : (0 : Int) ≤ (r : Int) := by omega
                    have r1 : (r : Int) < 4 := by omega
                    have e1 : wr.cell? ⟨b, r, none⟩ = some (.int .u8 ((g r).toNat : Int)) := by
                      have h := hD.1 r hr4
                      simp only [yv] at h
                      rwa [if_neg (by omega)] at h
                    have g1 := hD.2.1 r hr4
                    have e2 : wr.cell? ⟨vb, m * 4 + r, none⟩ = some (.int .u8 ((S (4 * m + r)).toNat : Int)) := by
                      obtain ⟨vb', vc', hvA, _, _, _, hR⟩ := hB.lies (by omega)
                      cases hvA
                      have h := hR.1 (m * 4 + r) (by omega)
                      rw [h]; simp only [yv]; rw [Nat.mul_comm m 4]
                    have o3 : bits .xor .u8 ((g r).toNat : Int) ((S (4 * m + r)).toNat : Int) = ((xB (S (4 * m + r)) (g r)).toNat : Int) := by
                      rw [show xB (S (4 * m + r)) (g r) = xB (g r) (S (4 * m + r)) from BitVec.xor_comm _ _]; exact xB_fact _ _
                    clear hA hB hD
                    go_upto_region 27 with (fail)
                    go_region
                    have HBu : But b wr (wr.setCell ⟨b, r, none⟩ (.int .u8 ((xB (S (4 * m + r)) (g r)).toNat : Int))).drew := But.drew (but_setCell _ _ _ _)
                    have HA2 : UnAt w c 256 (wr.setCell ⟨b, r, none⟩ (.int .u8 ((xB (S (4 * m + r)) (g r)).toNat : Int))).drew := ⟨RowAt.but HA.out.1 HBu (by omega), Ext.but HA.out.2.1 HBu (by have := HA.out.2.2; omega), HA.out.2.2⟩
                    have HB2 := HB.out.but HBu (by simp only [Value.ownBlock]; intro h; cases h; omega)
                    have HD2 := (RowAt.set HD.out r (.int .u8 ((xB (S (4 * m + r)) (g r)).toNat : Int))).drew
                    replace HA2 := hideit HA2
                    replace HB2 := hideit HB2
                    replace HD2 := hideit HD2
                    clear HA HB HD HBu e1 g1 e2
                    generalize (wr.setCell ⟨b, r, none⟩ (.int .u8 ((xB (S (4 * m + r)) (g r)).toNat : Int))).drew = Y6 at *
                    go_wp2
                    refine ⟨⟨r + 1, by omega, by go_num, HA2.out, HB2.out, HD2.out.congr fun j hj => ?_⟩, by simp [intOf]; omega⟩
                    simp only [yv]
                    by_cases e : j = r
                    · subst e; rw [if_pos rfl, if_pos (by omega)]
                    · rw [if_neg e]
                      by_cases h : j < r
                      · rw [if_pos h, if_pos (by omega)]
                      · rw [if_neg h, if_neg (by omega)]
                  · obtain rfl : r = 4 := by omega
                    go_upto_region 28 with (fail)
                    clear hA hB hD
                    obtain ⟨d, hd⟩ : ∃ d : Nat → BitVec 8, ∀ j, j < 4 → d j = xB (S (4 * m + j)) (g j) := ⟨fun j => xB (S (4 * m + j)) (g j), fun _ _ => rfl⟩
                    have HD4 : Hid (RowAt b 4 (yv d) wr) := hideit (HD.out.congr fun j hj => by simp only [yv]; rw [if_pos hj, hd j hj])
                    replace hd := hideit hd
                    clear HD
                    refine wp_region_lit ?_
                    refine wpList_run rfl (.slice (some ⟨vb, 0, none⟩) (m + 4) vcap) (by simp [go_sem]) ?_
                    simp only [zp0, zp1, zp2, zp3]
                    refine wpList_load_mid rfl 129 (.tmp 11) rfl _ 0 rfl (row 4 (yv d)) _ (HD4.out.range) Tryz.underlying129 rfl (by rw [row_length]; exact info63) ?_
                    simp only [zp0, zp1, zp2, zp3]
                    refine wpList_to rfl (.slice (some ⟨wr.heap.size, 0, none⟩) 1 1) (wr.alloc (.cells (row 4 (yv d)).toArray 129)) (by rw [show row 4 (yv d) = [yv d 0, yv d 1, yv d 2, yv d 3] from rfl]; simp [go_sem]) ?_
                    simp only [zp0, zp1, zp2, zp3]
                    have HEx : Ext wr (wr.alloc (.cells (row 4 (yv d)).toArray 129)) := (Below.refl _ _).alloc (Nat.le_refl _) _
                    have HA7 : UnAt w c 256 (wr.alloc (.cells (row 4 (yv d)).toArray 129)) := ⟨HA.out.1.carry HEx, Ext.trans HA.out.2.1 HEx, HA.out.2.2⟩
                    have HB7 := HB.out.ext HEx
                    refine wpList_growN elem63 (by decide) rfl (.tmp 182) (.tmp 184) rfl rfl HB7 ⟨wr.heap.size, 0, none⟩ 1 1 (yv d) (yv (partS 4 (m + 4) g S 4)) rfl (lie_row (RowAt.new wr 4 (yv d) 129)) (fun _ _ => rfl) (fun j hj => by simp only [yv, partS]; rw [if_neg (by omega)]) (fun j hj => by simp only [yv, partS]; rw [if_pos (by omega), hd.out j (by omega), show (m + 4) * 4 + j - 4 * 4 = 4 * m + j by omega, show (m + 4) * 4 + j - 4 * (m + 4) = j by omega]) (by omega) HA7.1.2.2 ?_
                    intro v9 w9 ho hgr hz9
                    have HA9 : UnAt w c 256 w9 := ⟨RowAt.grown HA7.1 hgr (fun h => by have := (HB7.lt c h.symm).1; omega), grown_extB HA7.2.1 hgr (fun k h => by have := (HB7.lt k h).1; have := HA7.2.2; omega), HA7.2.2⟩
                    replace HA9 := hideit HA9
                    replace ho := hideit ho
                    clear hgr hz9 HA7 HB7 HEx HA HB HD4 hd
                    simp only [zp0, zp1, zp2, zp3]
                    have HQ : OwnN (c + 1) 129 4 v9 (m + 1 + 4) (yv (wordK 4 bxT twT key (m + 1)).1) w9 := by
                      rw [show m + 1 + 4 = m + 4 + 1 by omega]
                      have hw1 : (wordK 4 bxT twT key (m + 1)).1 = partS 4 (m + 4) g S 4 := by
                        show partS 4 (m + 4) (wordAt 4 bxT (m + 4) (wordK 4 bxT twT key m).1 (wordK 4 bxT twT key m).2) (wordK 4 bxT twT key m).1 4 = _
                        rw [← hcq.out, ← hS.out, ← hg.out]
                      rw [hw1]
                      exact ho.out
                    replace HQ := hideit HQ
                    clear ho
                    go_wp2
                    go_roundw
                    case rel =>
                      have HQ' := HQ.out
                      have H9' := H9.out
                      first | exact ⟨(m + 1 : Nat), by omega, by go_num, H9', HA9.out, HQ'⟩ | ((repeat apply Exists.intro); exact ⟨⟨m + 1, by omega, by go_num, H9', HA9.out, HQ'⟩, rfl⟩)
                    case measure => simp [intOf]; omega
            · obtain rfl : m = 40 := by omega
              obtain ⟨W, hW⟩ : ∃ W, W = wordsF 4 bxT twT key := ⟨_, rfl⟩
              have HO' : OwnN (c + 1) 129 4 u7 44 (yv W) wr := by rw [hW]; exact HO.out
              obtain ⟨vb, vcap, hvA, hvb, hvc, hvm, hR⟩ := HO'.lies (by omega)
              subst hvA
              have hcB : c < wr.heap.size := HT.out.1.2.2
              have hvB : vb < wr.heap.size := hR.2.2
              have HK : KyAt w c vb wr.heap.size 44 W (.slice none 0 0) 0 wr := ⟨HT.out.1.congr fun j _ => by rw [ubP_all]; unfold rcv; split <;> rfl, hR, ownN_nil _ _ _ _ _, HT.out.2.1, Nat.le_refl _⟩
              have HWC : Hid (w.heap.size ≤ c) := HT.out.2.2
              replace HK := hideit HK
              replace hW := hideit hW
              clear hR HO HO' HT hvm
              generalize hB5 : wr.heap.size = B5 at *
              clear hB5
              go_upto_region 30 with (fail)
              go_loopw [13] (fun i wr => ∃ (n : Nat) (vk : Value), n ≤ 11 ∧ i = .int .i64 (n : Int) ∧ KyAt w c vb B5 44 W vk n wr) (fun i _ => 100 - (intOf i).toNat)
              case atStart => exact ⟨0, _, by omega, rfl, HK.out⟩
              case round =>
                clear HK
                obtain ⟨n, vk, hn, rfl, hK⟩ := hrel
                have HK := hideit hK
                clear hK
                by_cases hn5 : n < 11
                · have n0 : (0 : Int) ≤ (n : Int) := by omega
                  have n1 : (n : Int) < 11 := by omega
                  have hz := store_Y16
                  obtain ⟨b, hbe⟩ : ∃ b, b = wr.heap.size := ⟨_, rfl⟩
                  have HEx : Ext wr (wr.alloc (.cells (row 16 (yv fun _ => 0#8)).toArray 52)) := (Below.refl _ _).alloc (Nat.le_refl _) _
                  have HN : RowAt b 16 (yv fun _ => 0#8) (wr.alloc (.cells (row 16 (yv fun _ => 0#8)).toArray 52)) := by rw [hbe]; exact RowAt.new wr 16 (yv fun _ => 0#8) 52
                  have HK1 : KyAt w c vb B5 44 W vk n (wr.alloc (.cells (row 16 (yv fun _ => 0#8)).toArray 52)) := ⟨HK.out.1.carry HEx, HK.out.2.1.carry HEx, HK.out.2.2.1.ext HEx, Ext.trans HK.out.2.2.2.1 HEx, by have := HK.out.2.2.2.2; have := Below.size HEx; omega⟩
                  have hbB : B5 ≤ b := by rw [hbe]; exact HK.out.2.2.2.2
                  have hbk : Hid (vk.ownBlock ≠ some b) := fun h => by have := (HK.out.2.2.1.lt b h).2; omega
                  replace HN := hideit HN
                  replace HK1 := hideit HK1
                  clear HEx HK
                  go_upto_region 34 with (fail)
                  rw [← hbe]
                  clear hbe
                  generalize wr.alloc (.cells (row 16 (yv fun _ => 0#8)).toArray 52) = Y1 at *
                  go_loopw [15] (fun i wr => ∃ r : Nat, r ≤ 16 ∧ i = .int .i64 (r : Int) ∧ KyAt w c vb B5 44 W vk n wr ∧ RowAt b 16 (yv fun j => if j < r then W (16 * n + j) else 0#8) wr) (fun i _ => 16 - (intOf i).toNat)
                  case atStart => exact ⟨0, by omega, rfl, HK1.out, HN.out.congr fun j _ => by simp only [yv]; rw [if_neg (by omega)]⟩
                  case round =>
                    clear HK1 HN
                    obtain ⟨r, hr, rfl, hA, hD⟩ := hrel
                    have HA := hideit hA
                    have HD := hideit hD
                    by_cases hr4 : r < 16
                    · have r0 : (0 : Int) ≤ (r : Int) := by omega
                      have r1 : (r : Int) < 16 := by omega
                      have e1 := hD.1 r hr4
                      have g1 := hD.2.1 r hr4
                      have e2 : wr.cell? ⟨vb, (4 * n + r / 4) * 4 + r % 4, none⟩ = some (.int .u8 ((W (16 * n + r)).toNat : Int)) := by
                        have h := hA.2.1.1 (16 * n + r) (by omega)
                        rw [show (4 * n + r / 4) * 4 + r % 4 = 16 * n + r by omega]
                        exact h
                      clear hA hD
                      go_upto_region 35 with (fail)
                      have HBu : But b wr (wr.setCell ⟨b, r, none⟩ (.int .u8 ((W (16 * n + r)).toNat : Int))) := but_setCell _ _ _ _
                      have HA2 : KyAt w c vb B5 44 W vk n (wr.setCell ⟨b, r, none⟩ (.int .u8 ((W (16 * n + r)).toNat : Int))) := ⟨RowAt.but HA.out.1 HBu (by omega), RowAt.but HA.out.2.1 HBu (by omega), HA.out.2.2.1.but HBu hbk.out, Ext.but HA.out.2.2.2.1 HBu (by have := HWC.out; omega), by rw [World.size_setCell]; exact HA.out.2.2.2.2⟩
                      have HD2 := RowAt.set HD.out r (.int .u8 ((W (16 * n + r)).toNat : Int))
                      replace HA2 := hideit HA2
                      replace HD2 := hideit HD2
                      clear HA HD HBu e1 g1 e2
                      generalize wr.setCell ⟨b, r, none⟩ (.int .u8 ((W (16 * n + r)).toNat : Int)) = Y6 at *
                      go_wp2
                      refine ⟨⟨r + 1, by omega, by go_num, HA2.out, HD2.out.congr fun j hj => ?_⟩, by simp [intOf]; omega⟩
                      simp only [yv]
                      by_cases e : j = r
                      · subst e; rw [if_pos rfl, if_pos (by omega)]
                      · rw [if_neg e]
                        by_cases h : j < r
                        · rw [if_pos h, if_pos (by omega)]
                        · rw [if_neg h, if_neg (by omega)]
                    · obtain rfl : r = 16 := by omega
                      obtain ⟨d, hd⟩ : ∃ d : Nat → BitVec 8, ∀ j, j < 16 → d j = W (16 * n + j) := ⟨fun j => W (16 * n + j), fun _ _ => rfl⟩
                      have HD4 : Hid (RowAt b 16 (yv d) wr) := hideit (HD.out.congr fun j hj => by simp only [yv]; rw [if_pos hj, hd j hj])
                      replace hd := hideit hd
                      clear HD hA hD
                      go_upto_region 37 with (fail)
                      have e0 : ∀ k : Kept (Ext wr.drew), k.w.cell? ⟨c, 0, none⟩ = some vk := fun k => by
                        exact (HA.out.1.drew.carry k.ok).1 0 (by omega)
                      have hne := kept_ne wr.drew
                      refine wp_region_mixF [0] [_] [1, 2, 3, 4, 5] [_, _, _, _, _] 6 _ [7, 8, 9, 10] [_, _, _, _] (by kernel_rfl) (by kernel_rfl) (fun _ _ _ _ _ h => h) (by kernel_rfl) rfl (by kernel_rfl) rfl rfl rfl (by decide +kernel) (by kernel_rfl) (by kernel_rfl) (by decide +kernel) (by decide +kernel) (by decide +kernel) (by decide +kernel) (by decide +kernel) (by decide +kernel) (by decide +kernel) ?_
                      simp only [List.getElem_toArray, List.getElem_cons_zero, List.getElem_cons_succ]
                      refine wpPure_one (.pointer (some ⟨c, 0, none⟩)) rfl (fun X => by simp [go_sem]) ?_
                      simp only [zp0, zp1, zp2, zp3]
                      refine wpPure_nil ?_
                      refine wpStrong_run 5 rfl ?_
                      simp only [List.take_succ_cons, List.take_zero, List.drop_succ_cons, List.drop_zero]
                      go_big_quiet_step (fail)
                      go_big_quiet_step (fail)
                      go_big_quiet_step (fail)
                      go_big_quiet_step (fail)
                      go_big_quiet_want
                      refine loadQ 52 (.tmp 14) b 0 16 (yv d) rfl rfl (fun w' hw' => (RowAt.carry (RowAt.drew HD4.out) hw').range) Tryz.underlying52 rfl info32 ?_
                      simp only [zp0, zp1, zp2, zp3]
                      go_big_quiet_on
                      refine wpQuiet_nil ?_
                      refine wpStrong_nil ?_
                      clear e0 hne
                      refine ⟨16, yv d, fun b => .slice (some ⟨b, 0, none⟩) 1 1, ⟨rfl, fun X hX => ⟨(row 16 (yv d)).toArray, 52, ?_, fun j hj => by simpa using row_get 16 (yv d) j hj⟩⟩, fun b2 X hb hX hR => ?_⟩
                      · exact exec_bslice 125 1 [(0, .tmp 214)] rfl (bslice36 d X)
                      have hX' : Ext wr X := Ext.trans ((Below.refl _ _).drew) hX
                      have HA2 : KyAt w c vb B5 44 W vk n X := ⟨HA.out.1.carry hX', HA.out.2.1.carry hX', HA.out.2.2.1.ext hX', Ext.trans HA.out.2.2.2.1 hX', by have := HA.out.2.2.2.2; have := Below.size hX'; omega⟩
                      simp only [zp0, zp1, zp2, zp3]
                      refine wpList_growN elem36 (by decide) rfl (.tmp 213) (.tmp 215) rfl rfl HA2.2.2.1 ⟨b2, 0, none⟩ 1 1 (yv d) (yv W) rfl (lie_row hR) (fun _ _ => rfl) (fun _ _ => rfl) (fun j hj => by simp only [yv]; rw [hd.out j (by omega), Nat.mul_comm 16 n]) (by omega) HA2.2.2.2.2 ?_
                      intro v9 w9 ho hgr hz9
                      obtain ⟨kb9, cp9, hv9, hkb9, hkc9, hkm9, hR9⟩ := ho.lies (by omega)
                      subst hv9
                      have hk0 : ∀ k, vk.ownBlock = some k → B5 ≤ k := fun k h => (HA2.2.2.1.lt k h).1
                      have HA9 : RowAt c 513 (fun j => if j = 0 then vk else rcv bxT ubT j) w9 := RowAt.grown HA2.1 hgr (fun h => by have := hk0 c h.symm; omega)
                      have HB9 : RowAt vb (4 * 44) (yv W) w9 := RowAt.grown HA2.2.1 hgr (fun h => by have := hk0 vb h.symm; omega)
                      have HE9 : Ext w w9 := grown_extB HA2.2.2.2.1 hgr (fun k h => by have := hk0 k h; have := HWC.out; omega)
                      have HS9 : B5 ≤ w9.heap.size := Nat.le_trans HA2.2.2.2.2 hgr.size
                      replace HA9 := hideit HA9
                      replace HB9 := hideit HB9
                      replace HE9 := hideit HE9
                      replace HS9 := hideit HS9
                      replace ho := hideit ho
                      have e9 : w9.cell? ⟨c, 0, none⟩ = some vk := HA9.out.1 0 (by omega)
                      have f9 : w9.frozen? ⟨c, 0, none⟩ = false := HA9.out.2.1 0 (by omega)
                      clear hkm9 hR9 hgr hz9 hX hX' hR hb HA2 HD4 hd HA hk0
                      simp only [zp0, zp1, zp2, zp3]
                      go_upto_region 31 with (fail)
                      have HBu : But c w9 (w9.setCell ⟨c, 0, none⟩ (.slice (some ⟨kb9, 0, none⟩) (n + 1) cp9)) := but_setCell _ _ _ _
                      have HK9 : KyAt w c vb B5 44 W (.slice (some ⟨kb9, 0, none⟩) (n + 1) cp9) (n + 1) (w9.setCell ⟨c, 0, none⟩ (.slice (some ⟨kb9, 0, none⟩) (n + 1) cp9)) := ⟨(HA9.out.set 0 (.slice (some ⟨kb9, 0, none⟩) (n + 1) cp9)).congr fun j _ => by split <;> rfl, RowAt.but HB9.out HBu (by omega), ho.out.but HBu (fun h => by have := (ho.out.lt c h).1; omega), Ext.but HE9.out HBu HWC.out, by rw [World.size_setCell]; exact HS9.out⟩
                      replace HK9 := hideit HK9
                      clear HA9 HB9 HE9 HS9 ho HBu e9 f9
                      generalize w9.setCell ⟨c, 0, none⟩ (.slice (some ⟨kb9, 0, none⟩) (n + 1) cp9) = Y9 at *
                      go_wp2
                      go_roundw
                      case rel =>
                        have HK9' := HK9.out
                        first | exact ⟨(n + 1 : Nat), (.slice (some ⟨kb9, 0, none⟩) (n + 1) cp9), by omega, by go_num, HK9'⟩ | ((repeat apply Exists.intro); exact ⟨⟨n + 1, (.slice (some ⟨kb9, 0, none⟩) (n + 1) cp9), by omega, by go_num, HK9'⟩, rfl⟩)
                      case measure => simp [intOf]; omega
                · obtain rfl : n = 11 := by omega
                  obtain ⟨kb, cp, hvA, hkb, hkc, hkm, hR⟩ := HK.out.2.2.1.lies (by omega)
                  subst hvA
                  have HF : RCip c kb cp 11 W bxT ubT wr := by
                    refine ⟨HK.out.1.1 0 (by omega), fun j hj => ?_, fun j hj => ?_, fun j hj => hR.1 j (by omega), HK.out.1.2.2, hR.2.2⟩
                    · have h : wr.cell? ⟨c, 1 + j, none⟩ = some (if 1 + j = 0 then _ else rcv bxT ubT (1 + j)) := HK.out.1.1 (1 + j) (by omega)
                      rw [h, if_neg (by omega)]
                      unfold rcv
                      rw [if_neg (by omega), if_pos (by omega), show 1 + j - 1 = j by omega]
                      rfl
                    · have h : wr.cell? ⟨c, 257 + j, none⟩ = some (if 257 + j = 0 then _ else rcv bxT ubT (257 + j)) := HK.out.1.1 (257 + j) (by omega)
                      rw [h, if_neg (by omega)]
                      unfold rcv
                      rw [if_neg (by omega), if_neg (by omega), show 257 + j - 257 = j by omega]
                      rfl
                  have HE : Below w.heap.size w wr := HK.out.2.2.2.1
                  rw [hW.out] at HF
                  replace HF := hideit HF
                  replace HE := hideit HE
                  clear HK hR
                  go_wp2
                  refine bodyPost_ret (results_tmp2 Tryz.results41 _ _ _) rfl ?_
                  exact ⟨c, kb, cp, rfl, HF.out, HE.out, HWC.out, by have := HWC.out; omega⟩
end Go.Proofs.YtfpfgbhdehbggaaGreatDoor
