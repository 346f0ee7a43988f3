/-
  Two unlike leaves of one place that are both right by one root and number show two unlike texts of one digest in their paths, or over their last nodes: whatever the leaves, the paths and the root.
-/
import Derived.Test.YtapmheocllicnaaDoorCards
import Derived.Test.YtapmheocllicnaaDoorTie
import Derived.WalkKit
import Derived.ProofKit
import Derived.OpenShut
import Derived.ShutString
import Derived.ChangeOld
import Derived.Below
import Derived.Deep.DeepHandedRow
import Derived.Lib.LaidTab
import Derived.Test.YtapmheocllicnaaDoorLiv
import Derived.Test.YtapmheocllicnaaDoorPw
import Derived.Test.YtapmheocllicnaaDoorRNd
import Derived.Test.YtapmheocllicnaaDoorSst
namespace Go.Proofs.YtapmheocllicnaaDoor.treeBinds
open Go.ChangeShapes Go.WideShapes Go.ChangeAt Go.RowKit
set_option linter.unusedVariables false

theorem own : ownKnob Tryd.prog.godebug = none := by kernel_rfl
theorem laidOut : laidOutB Tryd.prog = true := by kernel_rfl
theorem gTab : Tryd.prog.globalNamed "casket/sha.constants" = some 0 := by kernel_rfl
theorem gTabType : (Tryd.prog.globals[0]?).map (·.type) = some 77 := by kernel_rfl
theorem cellsG : Tryd.prog.cellsOf 77 = 64 := by kernel_rfl
theorem cellsE : Tryd.prog.cellsOf 67 = 1 := by kernel_rfl
def tabL : List Int := [1116352408, 1899447441, 3049323471, 3921009573, 961987163, 1508970993, 2453635748, 2870763221, 3624381080, 310598401, 607225278, 1426881987, 1925078388, 2162078206, 2614888103, 3248222580, 3835390401, 4022224774, 264347078, 604807628, 770255983, 1249150122, 1555081692, 1996064986, 2554220882, 2821834349, 2952996808, 3210313671, 3336571891, 3584528711, 113926993, 338241895, 666307205, 773529912, 1294757372, 1396182291, 1695183700, 1986661051, 2177026350, 2456956037, 2730485921, 2820302411, 3259730800, 3345764771, 3516065817, 3600352804, 4094571909, 275423344, 430227734, 506948616, 659060556, 883997877, 958139571, 1322822218, 1537002063, 1747873779, 1955562222, 2024104815, 2227730452, 2361852424, 2428436474, 2756734187, 3204031479, 3329325298]
theorem table {W : World} (h : laidMetH Tryd.prog Rows.treeBindsRow.laid W) : Lib.TabIs Tryd.prog W "casket/sha.constants" .u32 tabL :=
  Lib.tabIs_of_head (rest := []) gTab gTabType Tryd.underlying77 Tryd.underlying67 cellsE cellsG h
theorem tab_kT : ∀ j, j < 64 → tabL.getD j 0 = ((kT j).toNat : Int) := by decide +kernel
theorem tabC {W : World} (h : laidMetH Tryd.prog Rows.treeBindsRow.laid W) (h0 : 0 < W.heap.size) : TabC W :=
  ⟨fun j hj => by
    rw [← tab_kT j hj]
    exact (table h).cell gTab j hj, h0⟩

open Go.BigFrame
theorem bind_mem (w : World) (fa fb rt : Nat → BitVec 8) : RowAt w.heap.size 32 (yv fa) (((w.alloc (.cells (row 32 (yv fa)).toArray 25)).alloc (.cells (row 32 (yv fb)).toArray 25)).alloc (.cells (row 32 (yv rt)).toArray 25)) ∧ RowAt (w.heap.size + 1) 32 (yv fb) (((w.alloc (.cells (row 32 (yv fa)).toArray 25)).alloc (.cells (row 32 (yv fb)).toArray 25)).alloc (.cells (row 32 (yv rt)).toArray 25)) ∧ RowAt (w.heap.size + 1 + 1) 32 (yv rt) (((w.alloc (.cells (row 32 (yv fa)).toArray 25)).alloc (.cells (row 32 (yv fb)).toArray 25)).alloc (.cells (row 32 (yv rt)).toArray 25)) ∧ Ext w (((w.alloc (.cells (row 32 (yv fa)).toArray 25)).alloc (.cells (row 32 (yv fb)).toArray 25)).alloc (.cells (row 32 (yv rt)).toArray 25)) := by
  have h1 := RowAt.new w 32 (yv fa) 25
  have h2 := RowAt.new (w.alloc (.cells (row 32 (yv fa)).toArray 25)) 32 (yv fb) 25
  have h3 := RowAt.new ((w.alloc (.cells (row 32 (yv fa)).toArray 25)).alloc (.cells (row 32 (yv fb)).toArray 25)) 32 (yv rt) 25
  simp only [World.size_alloc] at h1 h2 h3
  refine ⟨(h1.alloc _).alloc _, h2.alloc _, h3, ?_⟩
  exact (((Below.refl _ w).alloc (Nat.le_refl _) _).alloc (by simp) _).alloc (by simp; omega) _
/-- so far no two texts of one digest -/
def NC (bs bs' : Nat → Nat → BitVec 8) (j : Nat) : Prop := eqN 512 (bs j) (bs' j) = true ∨ eqN 32 (nodeF (BitVec.ofNat 8 j) (bs j) 512) (nodeF (BitVec.ofNat 8 j) (bs' j) 512) = false
theorem chL_succ (leaf : Nat → BitVec 8) (x : Nat) (bs : Nat → Nat → BitVec 8) (q : Nat) : chL leaf x bs (List.range (q + 1)) = chS x bs (chL leaf x bs (List.range q)) q := by
  unfold chL
  rw [List.range_succ, List.foldl_append]
  rfl
theorem binds (fa fb : Nat → BitVec 8) (x : Nat) (bs bs' : Nat → Nat → BitVec 8) (hab : eqN 32 fa fb = false) : ∀ q, (chL fa x bs (List.range q)).2 → (chL fb x bs' (List.range q)).2 → (∀ j, j < q → NC bs bs' j) → eqN 32 (chL fa x bs (List.range q)).1 (chL fb x bs' (List.range q)).1 = false
  | 0, _, _, _ => hab
  | q + 1, h1, h2, h3 => by
    rw [chL_succ] at h1 h2 ⊢
    rw [chL_succ]
    have ih := binds fa fb x bs bs' hab q h1.1 h2.1 (fun j hj => h3 j (by omega))
    rcases h3 q (by omega) with he | hd
    · exfalso
      have he' := eqN_iff.1 he
      have : eqN 32 (chL fa x bs (List.range q)).1 (chL fb x bs' (List.range q)).1 = true := eqN_iff.2 fun t ht => by
        rw [← h1.2 t ht, ← h2.2 t ht]
        have hp : plc x q < 16 := Nat.mod_lt _ (by decide)
        exact he' _ (by omega)
      rw [ih] at this
      cases this
    · exact hd
theorem wpStrong_f {P : Program} {ops : Array Oper} {W : World} {E : Act → Prop} {o : Oper} {rest : List Oper} {a : Act} (hw : Region.wanted o (yielded ops a.tmps) = true) (v : Value) (hr : ∀ X, Ext W X → (execOp a.eval o).run P X = .ok (.value v) X) (h : wpStrong P ops W E rest (a.put o.dst v)) : wpStrong P ops W E (o :: rest) a := ⟨v, .inl ⟨hw, fun X hX => by rw [hr X hX]; exact ⟨rfl, rfl⟩⟩, h⟩
theorem makes25 {o : Oper} (hg : o.guard = none) (ho : o.op = .alloc 25) : Makes Tryd.prog o 32 (yv fun _ => 0#8) := ⟨hg, fun ρ w => ⟨(row 32 (yv fun _ => 0#8)).toArray, 25, by
  have hz := zero24
  unfold execOp
  simp [ho, Instr.alloc, hz, newVar, newRow, Value.cells], fun j hj => by rw [List.getElem?_toArray]; exact row_get 32 _ j hj⟩⟩
set_option maxRecDepth 20000 in
set_option maxHeartbeats 16000000 in
theorem walk (n : Int) (_ : (Lit.int .i64 n).wf = true) (i : Int) (_ : (Lit.int .i64 i).wf = true) (fa : Nat → BitVec 8) (p : Value) (fb : Nat → BitVec 8) (q : Value) (rt : Nat → BitVec 8) (w : World) (B3 : WArg p w) (B5 : WArg q w) (hC : TabC w) : Calls Tryd.prog 7 #[.int .i64 n, .int .i64 i, .agg (row 32 (yv fa)).toArray, p, .agg (row 32 (yv fb)).toArray, q, .agg (row 32 (yv rt)).toArray] w fun e w' => e = .returned (.bool true) ∧ Below w.heap.size w w' := by
  obtain ⟨k, us, ls, bs, hp⟩ := B3
  obtain ⟨k2, us2, ls2, bs2, hq⟩ := B5
  obtain ⟨po, pc, rfl⟩ := hp.w.form
  obtain ⟨qo, qc, rfl⟩ := hq.w.form
  obtain ⟨M1, M2, M3, M4⟩ := bind_mem w fa fb rt
  have kl := hideit (lives_any _ (hC.ext M4))
  replace M1 := hideit M1
  replace M2 := hideit M2
  replace M3 := hideit M3
  replace M4 := hideit M4
  replace hp := hideit hp
  replace hq := hideit hq
  replace hC := hideit hC
  go_enter Tryd.func7, Tryd.ntmps7
  go_upto_region 1 with (fail)
  generalize ((w.alloc (.cells (row 32 (yv fa)).toArray 25)).alloc (.cells (row 32 (yv fb)).toArray 25)).alloc (.cells (row 32 (yv rt)).toArray 25) = w3 at *
  go_upto_region 3 with (go_at_call 11; refine kl.out.mono ?_; rintro e w4 ⟨rfl, hX4⟩; have A4 := hideit (M1.out.carry hX4); have B4 := hideit (M2.out.carry hX4); have R4 := hideit (M3.out.carry hX4); have E4 := hideit (Ext.trans M4.out hX4); clear M1 M2 M3 M4 hX4)
  clear kl
  have k1 := hideit (check_all n i k fa rt (.slice po k pc) us ls bs w4 (hp.out.ext E4.out) (hC.out.ext E4.out))
  refine wp_region_lit ?_
  refine wpList_run rfl (.int .i64 n) (by simp [go_sem]) ?_
  simp only [Act.put, List.setIfInBounds_toArray, List.set_cons_zero, List.set_cons_succ]
  refine wpList_run rfl (.int .i64 i) (by simp [go_sem]) ?_
  simp only [Act.put, List.setIfInBounds_toArray, List.set_cons_zero, List.set_cons_succ]
  refine wpList_run rfl (.agg (row 32 (yv fa)).toArray) (exec_loadR 25 (.tmp 9) rfl (w.heap.size) 0 32 _ rfl A4.out.range Tryd.underlying25 rfl info24) ?_
  simp only [Act.put, List.setIfInBounds_toArray, List.set_cons_zero, List.set_cons_succ]
  refine wpList_run rfl (.slice po k pc) (by simp [go_sem]) ?_
  simp only [Act.put, List.setIfInBounds_toArray, List.set_cons_zero, List.set_cons_succ]
  refine wpList_run rfl (.agg (row 32 (yv rt)).toArray) (exec_loadR 25 (.tmp 13) rfl (w.heap.size + 1 + 1) 0 32 _ rfl R4.out.range Tryd.underlying25 rfl info24) ?_
  simp only [Act.put, List.setIfInBounds_toArray, List.set_cons_zero, List.set_cons_succ]
  refine wpList_call rfl (by simp [go_sem]) ((k1.out).mono ?_)
  rintro e w5 ⟨z1, rfl, hX5, hz1⟩
  refine ⟨_, rfl, ?_⟩
  simp only [Act.put, List.setIfInBounds_toArray, List.set_cons_zero, List.set_cons_succ]
  have A5 := hideit (A4.out.carry hX5)
  have B5 := hideit (B4.out.carry hX5)
  have R5 := hideit (R4.out.carry hX5)
  have E5 := hideit (Ext.trans E4.out hX5)
  clear k1 A4 B4 R4 E4 hX5
  by_cases z10 : z1 = 0
  · subst z10
    refine wpList_run rfl (.bool false) (by simp [go_sem]) ?_
    simp only [Act.put, List.setIfInBounds_toArray, List.set_cons_zero, List.set_cons_succ]
    refine wpList_run rfl (.bool false) (by simp [go_sem]) ?_
    simp only [Act.put, List.setIfInBounds_toArray, List.set_cons_zero, List.set_cons_succ]
    have k2' := hideit (check_all n i k2 fb rt (.slice qo k2 qc) us2 ls2 bs2 w5 (hq.out.ext E5.out) (hC.out.ext E5.out))
    refine wpList_runW rfl (.int .i64 n) (by simp [go_sem]) ?_
    simp only [Act.put, List.setIfInBounds_toArray, List.set_cons_zero, List.set_cons_succ]
    refine wpList_runW rfl (.int .i64 i) (by simp [go_sem]) ?_
    simp only [Act.put, List.setIfInBounds_toArray, List.set_cons_zero, List.set_cons_succ]
    refine wpList_runW rfl (.agg (row 32 (yv fb)).toArray) (exec_loadR 25 (.tmp 11) rfl (w.heap.size + 1) 0 32 _ rfl B5.out.range Tryd.underlying25 rfl info24) ?_
    simp only [Act.put, List.setIfInBounds_toArray, List.set_cons_zero, List.set_cons_succ]
    refine wpList_runW rfl (.slice qo k2 qc) (by simp [go_sem]) ?_
    simp only [Act.put, List.setIfInBounds_toArray, List.set_cons_zero, List.set_cons_succ]
    refine wpList_runW rfl (.agg (row 32 (yv rt)).toArray) (exec_loadR 25 (.tmp 13) rfl (w.heap.size + 1 + 1) 0 32 _ rfl R5.out.range Tryd.underlying25 rfl info24) ?_
    simp only [Act.put, List.setIfInBounds_toArray, List.set_cons_zero, List.set_cons_succ]
    refine wpList_callW rfl (by simp [go_sem]) ((k2'.out).mono ?_)
    rintro e w6 ⟨z2, rfl, hX6, hz2⟩
    refine ⟨_, rfl, ?_⟩
    simp only [Act.put, List.setIfInBounds_toArray, List.set_cons_zero, List.set_cons_succ]
    have A6 := hideit (A5.out.carry hX6)
    have B6 := hideit (B5.out.carry hX6)
    have E6 := hideit (Ext.trans E5.out hX6)
    clear k2' A5 B5 R5 E5 hX6
    by_cases z20 : z2 = 0
    · subst z20
      refine wpList_runW rfl (.bool false) (by simp [go_sem]) ?_
      simp only [Act.put, List.setIfInBounds_toArray, List.set_cons_zero, List.set_cons_succ]
      refine wpList_run rfl (.bool false) (by simp [go_sem]) ?_
      simp only [Act.put, List.setIfInBounds_toArray, List.set_cons_zero, List.set_cons_succ]
      refine wpList_run rfl (.bool false) (by simp [go_sem]) ?_
      simp only [Act.put, List.setIfInBounds_toArray, List.set_cons_zero, List.set_cons_succ]
      refine wpList_runW rfl (.agg (row 32 (yv fa)).toArray) (exec_loadR 25 (.tmp 9) rfl (w.heap.size) 0 32 _ rfl A6.out.range Tryd.underlying25 rfl info24) ?_
      simp only [Act.put, List.setIfInBounds_toArray, List.set_cons_zero, List.set_cons_succ]
      refine wpList_runW rfl (.agg (row 32 (yv fb)).toArray) (exec_loadR 25 (.tmp 11) rfl (w.heap.size + 1) 0 32 _ rfl B6.out.range Tryd.underlying25 rfl info24) ?_
      simp only [Act.put, List.setIfInBounds_toArray, List.set_cons_zero, List.set_cons_succ]
      refine wpList_runW rfl (.bool (eqN 32 fa fb)) (exec_cmp .eql 25 25 (.tmp 38) (.tmp 39) rfl _ _ rfl rfl (by kernel_rfl) _ (eql25 _ _ _)) ?_
      simp only [Act.put, List.setIfInBounds_toArray, List.set_cons_zero, List.set_cons_succ]
      cases hab : eqN 32 fa fb with
      | true =>
        refine wpList_run rfl (.bool true) (by simp [go_sem]) ?_
        simp only [Act.put, List.setIfInBounds_toArray, List.set_cons_zero, List.set_cons_succ]
        go_wp2
        go_ret
        exact ⟨rfl, E6.out⟩
      | false =>
        refine wpList_run rfl (.bool false) (by simp [go_sem]) ?_
        simp only [Act.put, List.setIfInBounds_toArray, List.set_cons_zero, List.set_cons_succ]
        obtain ⟨m, x, g1⟩ : ∃ m x, Good n i k ls fa bs rt m x := by
          rcases hz1 with ⟨h, _⟩ | ⟨_, ⟨_, h⟩ | ⟨h, _⟩⟩
          · cases h
          · exact h
          · cases h
        obtain ⟨m2, x2, g2⟩ : ∃ m x, Good n i k2 ls2 fb bs2 rt m x := by
          rcases hz2 with ⟨h, _⟩ | ⟨_, ⟨_, h⟩ | ⟨h, _⟩⟩
          · cases h
          · exact h
          · cases h
        obtain rfl : m = m2 := by have e1 := g1.n; have e2 := g2.n; omega
        obtain rfl : x = x2 := by have e1 := g1.i; have e2 := g2.i; omega
        obtain rfl : k2 = k := by rw [g1.lvls, g2.lvls]
        have hk3 := lvN_pos m
        rw [← g1.lvls] at hk3
        have hpp := hideit (hp.out.parts g1.len)
        have hqp := hideit (hq.out.parts g2.len)
        have hfin := hideit (binds fa fb x bs bs2 hab k2 g1.up g2.up)
        have hls := hideit g1.len
        have hls2 := hideit g2.len
        obtain ⟨pa, rfl⟩ : ∃ pa, po = some pa := by
          rcases hpp.out.1 with ⟨h, h0⟩ | ⟨a, cap', h, _, h3⟩
          · omega
          · injection h with e1 e2 e3
            exact ⟨a, e1⟩
        obtain ⟨qa, rfl⟩ : ∃ qa, qo = some qa := by
          rcases hqp.out.1 with ⟨h, h0⟩ | ⟨a, cap', h, _, h3⟩
          · omega
          · injection h with e1 e2 e3
            exact ⟨a, e1⟩
        have hpl : Hid (LieAt pa k2 us w) := by
          rcases hpp.out.1 with ⟨h, h0⟩ | ⟨a, cap', h, _, h3⟩
          · cases h
          · injection h with e1 e2 e3
            cases e1
            exact h3
        have hql : Hid (LieAt qa k2 us2 w) := by
          rcases hqp.out.1 with ⟨h, h0⟩ | ⟨a, cap', h, _, h3⟩
          · cases h
          · injection h with e1 e2 e3
            cases e1
            exact h3
        clear g1 g2 hz1 hz2 A6 B6 hp hq hab
        go_wp2
        go_loopw [15] (fun iv X => ∃ j : Nat, j ≤ k2 ∧ iv = .int .i64 (j : Int) ∧ (∀ t, t < j → NC bs bs2 t) ∧ Ext w X) (fun iv _ => k2 - (intOf iv).toNat)
        case atStart => exact ⟨0, Nat.zero_le _, rfl, fun t ht => absurd ht (by omega), E6.out⟩
        case round =>
          clear E6
          obtain ⟨j, hj, rfl, hnc, hE⟩ := hrel
          replace hnc := hideit hnc
          replace hE := hideit hE
          by_cases hlt : j < k2
          · have j0 : (0 : Int) ≤ (j : Int) := by omega
            have j1 : (j : Int) < (k2 : Int) := by omega
            obtain ⟨pj, pjc, hpju, hpjc, hpjl⟩ : ∃ aj cj, us j = .slice (some aj) 512 cj ∧ 512 ≤ cj ∧ LieAt aj 512 (yv (bs j)) w := by
              have h1 := hpp.out.2 j hlt
              rw [hls.out j hlt] at h1
              rcases h1 with ⟨_, h⟩ | ⟨a, c, h, hc, hl⟩
              · cases h
              · exact ⟨a, c, h, hc, hl⟩
            replace hpju := hideit hpju
            replace hpjl := hideit hpjl
            obtain ⟨qj, qjc, hqju, hqjc, hqjl⟩ : ∃ aj cj, us2 j = .slice (some aj) 512 cj ∧ 512 ≤ cj ∧ LieAt aj 512 (yv (bs2 j)) w := by
              have h1 := hqp.out.2 j hlt
              rw [hls2.out j hlt] at h1
              rcases h1 with ⟨_, h⟩ | ⟨a, c, h, hc, hl⟩
              · cases h
              · exact ⟨a, c, h, hc, hl⟩
            replace hqju := hideit hqju
            replace hqjl := hideit hqjl
            go_upto_region 8 with (fail)
            have E8 := hideit (Ext.trans hE.out (Ext.refl wr).draw)
            have pbv : ∀ X, Ext wr.drew X → BV (.slice (some pj) 512 pjc) 512 (bs j) X := fun X hX => .inr ⟨pj, pjc, rfl, hpjc, hpjl.out.carry (Ext.trans E8.out hX)⟩
            have qbv : ∀ X, Ext wr.drew X → BV (.slice (some qj) 512 qjc) 512 (bs2 j) X := fun X hX => .inr ⟨qj, qjc, rfl, hqjc, hqjl.out.carry (Ext.trans E8.out hX)⟩
            have hjb : ((j : Nat) : Int) % 256 = ((BitVec.ofNat 8 j).toNat : Int) := by rw [BitVec.toNat_ofNat]; omega
            obtain ⟨s1, hs1⟩ : ∃ s1, s1 = bstr 512 (fun t => ((bs j t).toNat : Int)) := ⟨_, rfl⟩
            obtain ⟨s2, hs2⟩ : ∃ s2, s2 = bstr 512 (fun t => ((bs2 j t).toNat : Int)) := ⟨_, rfl⟩
            have hss : (s1.toList == s2.toList) = eqN 512 (bs j) (bs2 j) := by rw [hs1, hs2]; exact str_beq 512 _ _
            have cp : ∀ X, Ext wr.drew X → (convert 23 9 (.slice (some pj) 512 pjc)).run Tryd.prog X = .ok (.string s1) X := fun X hX => by rw [hs1]; exact convV _ _ _ X (pbv X hX)
            have cq : ∀ X, Ext wr.drew X → (convert 23 9 (.slice (some qj) 512 qjc)).run Tryd.prog X = .ok (.string s2) X := fun X hX => by rw [hs2]; exact convV _ _ _ X (qbv X hX)
            clear hs1 hs2
            cases heq : eqN 512 (bs j) (bs2 j) with
            | true =>
              rw [heq] at hss
              refine wp_region_lad (fun X => Ext wr.drew X) [(false, 0), (false, 1), (false, 2), (false, 3), (false, 4), (false, 5), (false, 6), (false, 7), (false, 8), (false, 9), (false, 10), (false, 11), (false, 12), (false, 13), (false, 14), (false, 15), (false, 16), (false, 18), (false, 19), (false, 20), (false, 21), (false, 22), (true, 17), (true, 23), (false, 24), (false, 25)] (by kernel_rfl) (by kernel_rfl) (by decide +kernel) (by decide +kernel) (by decide +kernel) (by decide +kernel) (Ext.refl _) ?_
              refine wpX_f _ (.slice (some pa) k2 pc) rfl rfl (fun X _ => by simp [go_sem]) ?_
              simp only [List.getElem_toArray, List.getElem_cons_zero, Act.put, List.setIfInBounds_toArray, List.set_cons_zero, List.set_cons_succ]
              refine wpX_f _ (.int .i64 (j : Int)) rfl rfl (fun X _ => by simp [go_sem]) ?_
              simp only [List.getElem_toArray, List.getElem_cons_zero, List.getElem_cons_succ, Act.put, List.setIfInBounds_toArray, List.set_cons_zero, List.set_cons_succ]
              refine wpX_f _ (.pointer (some (pa.add j))) rfl rfl (fun X _ => by simp [go_sem, j1]) ?_
              simp only [List.getElem_toArray, List.getElem_cons_zero, List.getElem_cons_succ, Act.put, List.setIfInBounds_toArray, List.set_cons_zero, List.set_cons_succ]
              refine wpX_f _ (.slice (some pj) 512 pjc) rfl rfl (fun X hX => by have e := (hpl.out.carry (Ext.trans E8.out hX)).1 j hlt; rw [hpju.out] at e; simp [go_sem, e]) ?_
              simp only [List.getElem_toArray, List.getElem_cons_zero, List.getElem_cons_succ, Act.put, List.setIfInBounds_toArray, List.set_cons_zero, List.set_cons_succ]
              refine wpX_f _ (.string s1) rfl rfl (fun X hX => by have e := cp X hX; simp [go_sem, e]) ?_
              simp only [List.getElem_toArray, List.getElem_cons_zero, List.getElem_cons_succ, Act.put, List.setIfInBounds_toArray, List.set_cons_zero, List.set_cons_succ]
              refine wpX_f _ (.slice (some qa) k2 qc) rfl rfl (fun X _ => by simp [go_sem]) ?_
              simp only [List.getElem_toArray, List.getElem_cons_zero, List.getElem_cons_succ, Act.put, List.setIfInBounds_toArray, List.set_cons_zero, List.set_cons_succ]
              refine wpX_f _ (.int .i64 (j : Int)) rfl rfl (fun X _ => by simp [go_sem]) ?_
              simp only [List.getElem_toArray, List.getElem_cons_zero, List.getElem_cons_succ, Act.put, List.setIfInBounds_toArray, List.set_cons_zero, List.set_cons_succ]
              refine wpX_f _ (.pointer (some (qa.add j))) rfl rfl (fun X _ => by simp [go_sem, j1]) ?_
              simp only [List.getElem_toArray, List.getElem_cons_zero, List.getElem_cons_succ, Act.put, List.setIfInBounds_toArray, List.set_cons_zero, List.set_cons_succ]
              refine wpX_f _ (.slice (some qj) 512 qjc) rfl rfl (fun X hX => by have e := (hql.out.carry (Ext.trans E8.out hX)).1 j hlt; rw [hqju.out] at e; simp [go_sem, e]) ?_
              simp only [List.getElem_toArray, List.getElem_cons_zero, List.getElem_cons_succ, Act.put, List.setIfInBounds_toArray, List.set_cons_zero, List.set_cons_succ]
              refine wpX_f _ (.string s2) rfl rfl (fun X hX => by have e := cq X hX; simp [go_sem, e]) ?_
              simp only [List.getElem_toArray, List.getElem_cons_zero, List.getElem_cons_succ, Act.put, List.setIfInBounds_toArray, List.set_cons_zero, List.set_cons_succ]
              refine wpX_f _ (.bool false) rfl rfl (fun X _ => by simp [go_sem, hss]) ?_
              simp only [List.getElem_toArray, List.getElem_cons_zero, List.getElem_cons_succ, Act.put, List.setIfInBounds_toArray, List.set_cons_zero, List.set_cons_succ]
              refine wpX_f _ (.bool false) rfl rfl (fun X _ => by simp [go_sem]) ?_
              simp only [List.getElem_toArray, List.getElem_cons_zero, List.getElem_cons_succ, Act.put, List.setIfInBounds_toArray, List.set_cons_zero, List.set_cons_succ]
              refine wpX_fskip _ rfl rfl ?_
              simp only [List.getElem_toArray, List.getElem_cons_zero, List.getElem_cons_succ, Act.put, List.setIfInBounds_toArray, List.set_cons_zero, List.set_cons_succ]
              refine wpX_fskip _ rfl rfl ?_
              simp only [List.getElem_toArray, List.getElem_cons_zero, List.getElem_cons_succ, Act.put, List.setIfInBounds_toArray, List.set_cons_zero, List.set_cons_succ]
              refine wpX_fskip _ rfl rfl ?_
              simp only [List.getElem_toArray, List.getElem_cons_zero, List.getElem_cons_succ, Act.put, List.setIfInBounds_toArray, List.set_cons_zero, List.set_cons_succ]
              refine wpX_fskip _ rfl rfl ?_
              simp only [List.getElem_toArray, List.getElem_cons_zero, List.getElem_cons_succ, Act.put, List.setIfInBounds_toArray, List.set_cons_zero, List.set_cons_succ]
              refine wpX_fskip _ rfl rfl ?_
              simp only [List.getElem_toArray, List.getElem_cons_zero, List.getElem_cons_succ, Act.put, List.setIfInBounds_toArray, List.set_cons_zero, List.set_cons_succ]
              refine wpX_fskip _ rfl rfl ?_
              simp only [List.getElem_toArray, List.getElem_cons_zero, List.getElem_cons_succ, Act.put, List.setIfInBounds_toArray, List.set_cons_zero, List.set_cons_succ]
              refine wpX_fskip _ rfl rfl ?_
              simp only [List.getElem_toArray, List.getElem_cons_zero, List.getElem_cons_succ, Act.put, List.setIfInBounds_toArray, List.set_cons_zero, List.set_cons_succ]
              refine wpX_fskip _ rfl rfl ?_
              simp only [List.getElem_toArray, List.getElem_cons_zero, List.getElem_cons_succ, Act.put, List.setIfInBounds_toArray, List.set_cons_zero, List.set_cons_succ]
              refine wpX_fskip _ rfl rfl ?_
              simp only [List.getElem_toArray, List.getElem_cons_zero, List.getElem_cons_succ, Act.put, List.setIfInBounds_toArray, List.set_cons_zero, List.set_cons_succ]
              refine wpX_fskip _ rfl rfl ?_
              simp only [List.getElem_toArray, List.getElem_cons_zero, List.getElem_cons_succ, Act.put, List.setIfInBounds_toArray, List.set_cons_zero, List.set_cons_succ]
              refine wpX_skip _ rfl rfl (Ext.refl _) ?_
              simp only [List.getElem_toArray, List.getElem_cons_zero, List.getElem_cons_succ, Act.put, List.setIfInBounds_toArray, List.set_cons_zero, List.set_cons_succ]
              refine wpX_skip _ rfl rfl (Ext.refl _) ?_
              simp only [List.getElem_toArray, List.getElem_cons_zero, List.getElem_cons_succ, Act.put, List.setIfInBounds_toArray, List.set_cons_zero, List.set_cons_succ]
              refine wpX_fskip _ rfl rfl ?_
              simp only [List.getElem_toArray, List.getElem_cons_zero, List.getElem_cons_succ, Act.put, List.setIfInBounds_toArray, List.set_cons_zero, List.set_cons_succ]
              refine wpX_f _ (.bool false) rfl rfl (fun X _ => by simp [go_sem]) ?_
              simp only [List.getElem_toArray, List.getElem_cons_zero, List.getElem_cons_succ, Act.put, List.setIfInBounds_toArray, List.set_cons_zero, List.set_cons_succ]
              refine wpX_nil ?_
              clear cp cq pbv qbv
              have hnc2 : ∀ t, t < j + 1 → NC bs bs2 t := fun t ht => by
                rcases (by omega : t < j ∨ t = j) with h | rfl
                · exact hnc.out t h
                · exact .inl heq
              replace hnc2 := hideit hnc2
              go_wp2
              exact ⟨⟨j + 1, by omega, by go_num, hnc2.out, E8.out⟩, by simp [intOf]; omega⟩
            | false =>
              rw [heq] at hss
              refine wp_region_lad (fun X => Ext wr.drew X) [(false, 0), (false, 1), (false, 2), (false, 3), (false, 4), (false, 5), (false, 6), (false, 7), (false, 8), (false, 9), (false, 10), (false, 11), (false, 12), (false, 13), (false, 14), (false, 15), (false, 16), (false, 18), (false, 19), (false, 20), (false, 21), (false, 22), (true, 17), (true, 23), (false, 24), (false, 25)] (by kernel_rfl) (by kernel_rfl) (by decide +kernel) (by decide +kernel) (by decide +kernel) (by decide +kernel) (Ext.refl _) ?_
              refine wpX_f _ (.slice (some pa) k2 pc) rfl rfl (fun X _ => by simp [go_sem]) ?_
              simp only [List.getElem_toArray, List.getElem_cons_zero, Act.put, List.setIfInBounds_toArray, List.set_cons_zero, List.set_cons_succ]
              refine wpX_f _ (.int .i64 (j : Int)) rfl rfl (fun X _ => by simp [go_sem]) ?_
              simp only [List.getElem_toArray, List.getElem_cons_zero, List.getElem_cons_succ, Act.put, List.setIfInBounds_toArray, List.set_cons_zero, List.set_cons_succ]
              refine wpX_f _ (.pointer (some (pa.add j))) rfl rfl (fun X _ => by simp [go_sem, j1]) ?_
              simp only [List.getElem_toArray, List.getElem_cons_zero, List.getElem_cons_succ, Act.put, List.setIfInBounds_toArray, List.set_cons_zero, List.set_cons_succ]
              refine wpX_f _ (.slice (some pj) 512 pjc) rfl rfl (fun X hX => by have e := (hpl.out.carry (Ext.trans E8.out hX)).1 j hlt; rw [hpju.out] at e; simp [go_sem, e]) ?_
              simp only [List.getElem_toArray, List.getElem_cons_zero, List.getElem_cons_succ, Act.put, List.setIfInBounds_toArray, List.set_cons_zero, List.set_cons_succ]
              refine wpX_f _ (.string s1) rfl rfl (fun X hX => by have e := cp X hX; simp [go_sem, e]) ?_
              simp only [List.getElem_toArray, List.getElem_cons_zero, List.getElem_cons_succ, Act.put, List.setIfInBounds_toArray, List.set_cons_zero, List.set_cons_succ]
              refine wpX_f _ (.slice (some qa) k2 qc) rfl rfl (fun X _ => by simp [go_sem]) ?_
              simp only [List.getElem_toArray, List.getElem_cons_zero, List.getElem_cons_succ, Act.put, List.setIfInBounds_toArray, List.set_cons_zero, List.set_cons_succ]
              refine wpX_f _ (.int .i64 (j : Int)) rfl rfl (fun X _ => by simp [go_sem]) ?_
              simp only [List.getElem_toArray, List.getElem_cons_zero, List.getElem_cons_succ, Act.put, List.setIfInBounds_toArray, List.set_cons_zero, List.set_cons_succ]
              refine wpX_f _ (.pointer (some (qa.add j))) rfl rfl (fun X _ => by simp [go_sem, j1]) ?_
              simp only [List.getElem_toArray, List.getElem_cons_zero, List.getElem_cons_succ, Act.put, List.setIfInBounds_toArray, List.set_cons_zero, List.set_cons_succ]
              refine wpX_f _ (.slice (some qj) 512 qjc) rfl rfl (fun X hX => by have e := (hql.out.carry (Ext.trans E8.out hX)).1 j hlt; rw [hqju.out] at e; simp [go_sem, e]) ?_
              simp only [List.getElem_toArray, List.getElem_cons_zero, List.getElem_cons_succ, Act.put, List.setIfInBounds_toArray, List.set_cons_zero, List.set_cons_succ]
              refine wpX_f _ (.string s2) rfl rfl (fun X hX => by have e := cq X hX; simp [go_sem, e]) ?_
              simp only [List.getElem_toArray, List.getElem_cons_zero, List.getElem_cons_succ, Act.put, List.setIfInBounds_toArray, List.set_cons_zero, List.set_cons_succ]
              refine wpX_f _ (.bool true) rfl rfl (fun X _ => by simp [go_sem, hss]) ?_
              simp only [List.getElem_toArray, List.getElem_cons_zero, List.getElem_cons_succ, Act.put, List.setIfInBounds_toArray, List.set_cons_zero, List.set_cons_succ]
              refine wpX_f _ (.bool true) rfl rfl (fun X _ => by simp [go_sem]) ?_
              simp only [List.getElem_toArray, List.getElem_cons_zero, List.getElem_cons_succ, Act.put, List.setIfInBounds_toArray, List.set_cons_zero, List.set_cons_succ]
              refine wpX_f _ (.int .i64 (j : Int)) rfl rfl (fun X _ => by simp [go_sem]) ?_
              simp only [List.getElem_toArray, List.getElem_cons_zero, List.getElem_cons_succ, Act.put, List.setIfInBounds_toArray, List.set_cons_zero, List.set_cons_succ]
              refine wpX_f _ (.slice (some pa) k2 pc) rfl rfl (fun X _ => by simp [go_sem]) ?_
              simp only [List.getElem_toArray, List.getElem_cons_zero, List.getElem_cons_succ, Act.put, List.setIfInBounds_toArray, List.set_cons_zero, List.set_cons_succ]
              refine wpX_f _ (.int .i64 (j : Int)) rfl rfl (fun X _ => by simp [go_sem]) ?_
              simp only [List.getElem_toArray, List.getElem_cons_zero, List.getElem_cons_succ, Act.put, List.setIfInBounds_toArray, List.set_cons_zero, List.set_cons_succ]
              refine wpX_f _ (.pointer (some (pa.add j))) rfl rfl (fun X _ => by simp [go_sem, j1]) ?_
              simp only [List.getElem_toArray, List.getElem_cons_zero, List.getElem_cons_succ, Act.put, List.setIfInBounds_toArray, List.set_cons_zero, List.set_cons_succ]
              refine wpX_f _ (.slice (some pj) 512 pjc) rfl rfl (fun X hX => by have e := (hpl.out.carry (Ext.trans E8.out hX)).1 j hlt; rw [hpju.out] at e; simp [go_sem, e]) ?_
              simp only [List.getElem_toArray, List.getElem_cons_zero, List.getElem_cons_succ, Act.put, List.setIfInBounds_toArray, List.set_cons_zero, List.set_cons_succ]
              refine wpX_f _ (.int .i64 (j : Int)) rfl rfl (fun X _ => by simp [go_sem]) ?_
              simp only [List.getElem_toArray, List.getElem_cons_zero, List.getElem_cons_succ, Act.put, List.setIfInBounds_toArray, List.set_cons_zero, List.set_cons_succ]
              refine wpX_f _ (.slice (some qa) k2 qc) rfl rfl (fun X _ => by simp [go_sem]) ?_
              simp only [List.getElem_toArray, List.getElem_cons_zero, List.getElem_cons_succ, Act.put, List.setIfInBounds_toArray, List.set_cons_zero, List.set_cons_succ]
              refine wpX_f _ (.int .i64 (j : Int)) rfl rfl (fun X _ => by simp [go_sem]) ?_
              simp only [List.getElem_toArray, List.getElem_cons_zero, List.getElem_cons_succ, Act.put, List.setIfInBounds_toArray, List.set_cons_zero, List.set_cons_succ]
              refine wpX_f _ (.pointer (some (qa.add j))) rfl rfl (fun X _ => by simp [go_sem, j1]) ?_
              simp only [List.getElem_toArray, List.getElem_cons_zero, List.getElem_cons_succ, Act.put, List.setIfInBounds_toArray, List.set_cons_zero, List.set_cons_succ]
              refine wpX_f _ (.slice (some qj) 512 qjc) rfl rfl (fun X hX => by have e := (hql.out.carry (Ext.trans E8.out hX)).1 j hlt; rw [hqju.out] at e; simp [go_sem, e]) ?_
              simp only [List.getElem_toArray, List.getElem_cons_zero, List.getElem_cons_succ, Act.put, List.setIfInBounds_toArray, List.set_cons_zero, List.set_cons_succ]
              refine wpX_call _ rfl rfl (by simp [go_sem]) ((rnode_any (j : Int) _ hjb _ 512 (bs j) wr.drew (pbv _ (Ext.refl _)) (by decide)).mono ?_)
              rintro e w9 ⟨rfl, hX9⟩
              refine ⟨_, rfl, fun X => Ext w9 X, fun X hX => Ext.trans hX9 hX, Ext.refl _, ?_⟩
              simp only [List.getElem_toArray, List.getElem_cons_zero, List.getElem_cons_succ, Act.put, List.setIfInBounds_toArray, List.set_cons_zero, List.set_cons_succ]
              refine wpX_call _ rfl rfl (by simp [go_sem]) ((rnode_any (j : Int) _ hjb _ 512 (bs2 j) w9 (qbv _ hX9) (by decide)).mono ?_)
              rintro e w10 ⟨rfl, hX10⟩
              refine ⟨_, rfl, fun X => Ext w10 X, fun X hX => Ext.trans hX10 hX, Ext.refl _, ?_⟩
              simp only [List.getElem_toArray, List.getElem_cons_zero, List.getElem_cons_succ, Act.put, List.setIfInBounds_toArray, List.set_cons_zero, List.set_cons_succ]
              refine wpX_f _ (.bool (eqN 32 (nodeF (BitVec.ofNat 8 j) (bs j) 512) (nodeF (BitVec.ofNat 8 j) (bs2 j) 512))) rfl rfl (fun X hX => exec_cmp .eql 25 25 (.tmp 71) (.tmp 77) rfl _ _ rfl rfl (by kernel_rfl) _ (eql25 _ _ X)) ?_
              simp only [List.getElem_toArray, List.getElem_cons_zero, List.getElem_cons_succ, Act.put, List.setIfInBounds_toArray, List.set_cons_zero, List.set_cons_succ]
              refine wpX_f _ (.bool (eqN 32 (nodeF (BitVec.ofNat 8 j) (bs j) 512) (nodeF (BitVec.ofNat 8 j) (bs2 j) 512))) rfl rfl (fun X _ => by simp [go_sem]) ?_
              simp only [List.getElem_toArray, List.getElem_cons_zero, List.getElem_cons_succ, Act.put, List.setIfInBounds_toArray, List.set_cons_zero, List.set_cons_succ]
              refine wpX_nil ?_
              have E10 := hideit (Ext.trans E8.out (Ext.trans hX9 hX10))
              clear cp cq pbv qbv hX9 hX10
              cases hd : eqN 32 (nodeF (BitVec.ofNat 8 j) (bs j) 512) (nodeF (BitVec.ofNat 8 j) (bs2 j) 512) with
              | true =>
                go_wp2
                go_ret
                exact ⟨rfl, E10.out⟩
              | false =>
                have hnc2 : ∀ t, t < j + 1 → NC bs bs2 t := fun t ht => by
                  rcases (by omega : t < j ∨ t = j) with h | rfl
                  · exact hnc.out t h
                  · exact .inr hd
                replace hnc2 := hideit hnc2
                replace hd := hideit hd
                go_wp2
                exact ⟨⟨j + 1, by omega, by go_num, hnc2.out, E10.out⟩, by simp [intOf]; omega⟩
          · obtain rfl : j = k2 := by omega
            have j1 : ¬ (j : Int) < (j : Int) := by omega
            obtain ⟨t, ht⟩ : ∃ t, j = t + 1 := ⟨j - 1, by omega⟩
            have htk : t < j := by omega
            have hfin2 := hfin.out hnc.out
            rw [ht, chL_succ, chL_succ] at hfin2
            replace hfin2 := hideit (show eqN 32 (nodeF (BitVec.ofNat 8 t) (bs t) 512) (nodeF (BitVec.ofNat 8 t) (bs2 t) 512) = false from hfin2)
            have hw : IntKind.i64.wrap ((j : Int) - 1) = (t : Int) := by rw [IntKind.wrap_i64]; omega
            replace hw := hideit hw
            have t0 : (0 : Int) ≤ (t : Int) := by omega
            have t1 : (t : Int) < (j : Int) := by omega
            have hjb : ((t : Nat) : Int) % 256 = ((BitVec.ofNat 8 t).toNat : Int) := by rw [BitVec.toNat_ofNat]; omega
            obtain ⟨pj, pjc, hpju, hpjc, hpjl⟩ : ∃ aj cj, us t = .slice (some aj) 512 cj ∧ 512 ≤ cj ∧ LieAt aj 512 (yv (bs t)) w := by
              have h1 := hpp.out.2 t htk
              rw [hls.out t htk] at h1
              rcases h1 with ⟨_, h⟩ | ⟨a, c, h, hc, hl⟩
              · cases h
              · exact ⟨a, c, h, hc, hl⟩
            replace hpju := hideit hpju
            replace hpjl := hideit hpjl
            obtain ⟨qj, qjc, hqju, hqjc, hqjl⟩ : ∃ aj cj, us2 t = .slice (some aj) 512 cj ∧ 512 ≤ cj ∧ LieAt aj 512 (yv (bs2 t)) w := by
              have h1 := hqp.out.2 t htk
              rw [hls2.out t htk] at h1
              rcases h1 with ⟨_, h⟩ | ⟨a, c, h, hc, hl⟩
              · cases h
              · exact ⟨a, c, h, hc, hl⟩
            replace hqju := hideit hqju
            replace hqjl := hideit hqjl
            replace ht := hideit ht
            replace hjb := hideit hjb
            clear hfin hnc hlt
            go_upto_region 10 with (fail)
            refine wp_region_lit ?_
            refine wpList_run rfl (.slice (some pa) j pc) (by simp [go_sem]) ?_
            simp only [Act.put, List.setIfInBounds_toArray, List.set_cons_zero, List.set_cons_succ]
            refine wpList_run rfl (.int .i64 (j : Int)) (by simp [go_sem]) ?_
            simp only [Act.put, List.setIfInBounds_toArray, List.set_cons_zero, List.set_cons_succ]
            refine wpList_run rfl (.int .i64 (t : Int)) (by simp [go_sem, hw.out]) ?_
            simp only [Act.put, List.setIfInBounds_toArray, List.set_cons_zero, List.set_cons_succ]
            go_upto_region 11 with (fail)
            have E8 := hideit (Ext.trans hE.out (Ext.refl wr).draw)
            have pbv : ∀ X, Ext wr.drew X → BV (.slice (some pj) 512 pjc) 512 (bs t) X := fun X hX => .inr ⟨pj, pjc, rfl, hpjc, hpjl.out.carry (Ext.trans E8.out hX)⟩
            have qbv : ∀ X, Ext wr.drew X → BV (.slice (some qj) 512 qjc) 512 (bs2 t) X := fun X hX => .inr ⟨qj, qjc, rfl, hqjc, hqjl.out.carry (Ext.trans E8.out hX)⟩
            obtain ⟨D1, hD1⟩ : ∃ D, D = nodeF (BitVec.ofNat 8 t) (bs t) 512 := ⟨_, rfl⟩
            obtain ⟨D2, hD2⟩ : ∃ D, D = nodeF (BitVec.ofNat 8 t) (bs2 t) 512 := ⟨_, rfl⟩
            rw [← hD1, ← hD2] at hfin2
            refine wp_region_made2s 12 32 (yv fun _ => 0#8) 32 (yv fun _ => 0#8) (yv D1) _ _ _ (by kernel_rfl) (by kernel_rfl) rfl rfl rfl (makes25 rfl rfl) (makes25 rfl rfl) ?_
            simp only [List.take_succ_cons, List.take_zero, List.drop_succ_cons, List.drop_zero]
            refine wpStrong_f rfl (.int .i64 (t : Int)) (fun X hX => by simp [go_sem]) ?_
            simp only [Act.put, List.setIfInBounds_toArray, List.set_cons_zero, List.set_cons_succ]
            refine wpStrong_f rfl (.slice (some pa) j pc) (fun X hX => by simp [go_sem]) ?_
            simp only [Act.put, List.setIfInBounds_toArray, List.set_cons_zero, List.set_cons_succ]
            refine wpStrong_f rfl (.int .i64 (t : Int)) (fun X hX => by simp [go_sem]) ?_
            simp only [Act.put, List.setIfInBounds_toArray, List.set_cons_zero, List.set_cons_succ]
            refine wpStrong_f rfl (.pointer (some (pa.add t))) (fun X hX => by simp [go_sem, t1]) ?_
            simp only [Act.put, List.setIfInBounds_toArray, List.set_cons_zero, List.set_cons_succ]
            refine wpStrong_f rfl (.slice (some pj) 512 pjc) (fun X hX => by have e := (hpl.out.carry (Ext.trans E8.out hX)).1 t htk; rw [hpju.out] at e; simp [go_sem, e]) ?_
            simp only [Act.put, List.setIfInBounds_toArray, List.set_cons_zero, List.set_cons_succ]
            refine wpStrong_call (v := .agg (row 32 (yv D1)).toArray) (f := 15) (args := #[.int .i64 (t : Int), .slice (some pj) 512 pjc]) rfl (fun X => by simp [go_sem]) (fun X hX => by have k := rnode_any (t : Int) _ hjb.out _ 512 (bs t) X (pbv X hX) (by decide); rw [← hD1] at k; exact k) ?_
            simp only [Act.put, List.setIfInBounds_toArray, List.set_cons_zero, List.set_cons_succ]
            refine wpStrong_f rfl (.int .i64 (t : Int)) (fun X hX => by simp [go_sem]) ?_
            simp only [Act.put, List.setIfInBounds_toArray, List.set_cons_zero, List.set_cons_succ]
            refine wpStrong_f rfl (.slice (some qa) j qc) (fun X hX => by simp [go_sem]) ?_
            simp only [Act.put, List.setIfInBounds_toArray, List.set_cons_zero, List.set_cons_succ]
            refine wpStrong_f rfl (.int .i64 (t : Int)) (fun X hX => by simp [go_sem]) ?_
            simp only [Act.put, List.setIfInBounds_toArray, List.set_cons_zero, List.set_cons_succ]
            refine wpStrong_f rfl (.pointer (some (qa.add t))) (fun X hX => by simp [go_sem, t1]) ?_
            simp only [Act.put, List.setIfInBounds_toArray, List.set_cons_zero, List.set_cons_succ]
            refine wpStrong_f rfl (.slice (some qj) 512 qjc) (fun X hX => by have e := (hql.out.carry (Ext.trans E8.out hX)).1 t htk; rw [hqju.out] at e; simp [go_sem, e]) ?_
            simp only [Act.put, List.setIfInBounds_toArray, List.set_cons_zero, List.set_cons_succ]
            refine wpStrong_call (v := .agg (row 32 (yv D2)).toArray) (f := 15) (args := #[.int .i64 (t : Int), .slice (some qj) 512 qjc]) rfl (fun X => by simp [go_sem]) (fun X hX => by have k := rnode_any (t : Int) _ hjb.out _ 512 (bs2 t) X (qbv X hX) (by decide); rw [← hD2] at k; exact k) ?_
            simp only [Act.put, List.setIfInBounds_toArray, List.set_cons_zero, List.set_cons_succ]
            refine wpStrong_nil ?_
            intro b1 b2 hb1 hb2 hb12
            simp only [List.setIfInBounds_toArray, List.set_cons_zero, List.set_cons_succ]
            refine ⟨writes_row rfl 25 (.tmp 17) (.tmp 88) rfl b1 32 _ _ rfl rfl info24 (fun _ _ => rfl), fun X hX HR1 HR2 => ?_⟩
            refine wpList_store_mid rfl 25 (.tmp 18) (.tmp 94) rfl _ 0 (row 32 (yv D2)).toArray rfl rfl (by rw [row_size]; exact HR2.there) (by rw [row_size]; exact info24) (row_one fun _ _ => rfl) ?_
            rw [show (row 32 (yv D2)).toArray.toList = row 32 (yv D2) from rfl]
            have H1 := hideit (HR1.cellsOther (Ne.symm hb12) (row 32 (yv D2)) 0)
            have H2 := hideit (HR2.cells (g' := yv D2))
            have hs8 : w.heap.size ≤ wr.heap.size := Below.size hE.out
            have E9 := hideit (below_setCells (w := w) b2 (by omega) (row 32 (yv D2)) 0 X (Ext.trans E8.out hX))
            generalize X.setCells b2 0 (row 32 (yv D2)) = w9 at *
            clear HR1 HR2 hX pbv qbv hD1 hD2
            simp only [Act.put]
            go_upto_region 12 with (fail)
            refine wp_region_lit ?_
            refine wpList_run rfl (.agg (row 32 (yv D1)).toArray) (exec_loadR 25 (.tmp 17) rfl (b1) 0 32 _ rfl H1.out.range Tryd.underlying25 rfl info24) ?_
            simp only [Act.put, List.setIfInBounds_toArray, List.set_cons_zero, List.set_cons_succ]
            refine wpList_run rfl (.agg (row 32 (yv D2)).toArray) (exec_loadR 25 (.tmp 18) rfl (b2) 0 32 _ rfl H2.out.range Tryd.underlying25 rfl info24) ?_
            simp only [Act.put, List.setIfInBounds_toArray, List.set_cons_zero, List.set_cons_succ]
            refine wpList_run rfl (.bool true) (exec_cmp .neq 25 25 (.tmp 95) (.tmp 96) rfl _ _ rfl rfl (by kernel_rfl) true ((neq25 _ _ _).trans (by rw [hfin2.out]; rfl))) ?_
            simp only [Act.put, List.setIfInBounds_toArray, List.set_cons_zero, List.set_cons_succ]
            go_wp2
            go_ret
            exact ⟨rfl, E9.out⟩
    · refine wpList_runW rfl (.bool true) (by simp [go_sem, z20]) ?_
      simp only [Act.put, List.setIfInBounds_toArray, List.set_cons_zero, List.set_cons_succ]
      refine wpList_run rfl (.bool true) (by simp [go_sem]) ?_
      simp only [Act.put, List.setIfInBounds_toArray, List.set_cons_zero, List.set_cons_succ]
      refine wpList_run rfl (.bool true) (by simp [go_sem]) ?_
      simp only [Act.put, List.setIfInBounds_toArray, List.set_cons_zero, List.set_cons_succ]
      with_reducible refine wpList_not (by with_unfolding_all rfl) ?_
      simp only [Act.put, List.setIfInBounds_toArray, List.set_cons_zero, List.set_cons_succ]
      with_reducible refine wpList_not (by with_unfolding_all rfl) ?_
      simp only [Act.put, List.setIfInBounds_toArray, List.set_cons_zero, List.set_cons_succ]
      with_reducible refine wpList_not (by with_unfolding_all rfl) ?_
      simp only [Act.put, List.setIfInBounds_toArray, List.set_cons_zero, List.set_cons_succ]
      refine wpList_run rfl (.bool true) (by simp [go_sem]) ?_
      simp only [Act.put, List.setIfInBounds_toArray, List.set_cons_zero, List.set_cons_succ]
      go_wp2
      go_ret
      exact ⟨rfl, E6.out⟩
  · refine wpList_run rfl (.bool true) (by simp [go_sem, z10]) ?_
    simp only [Act.put, List.setIfInBounds_toArray, List.set_cons_zero, List.set_cons_succ]
    refine wpList_run rfl (.bool true) (by simp [go_sem]) ?_
    simp only [Act.put, List.setIfInBounds_toArray, List.set_cons_zero, List.set_cons_succ]
    with_reducible refine wpList_not (by with_unfolding_all rfl) ?_
    simp only [Act.put, List.setIfInBounds_toArray, List.set_cons_zero, List.set_cons_succ]
    with_reducible refine wpList_not (by with_unfolding_all rfl) ?_
    simp only [Act.put, List.setIfInBounds_toArray, List.set_cons_zero, List.set_cons_succ]
    with_reducible refine wpList_not (by with_unfolding_all rfl) ?_
    simp only [Act.put, List.setIfInBounds_toArray, List.set_cons_zero, List.set_cons_succ]
    with_reducible refine wpList_not (by with_unfolding_all rfl) ?_
    simp only [Act.put, List.setIfInBounds_toArray, List.set_cons_zero, List.set_cons_succ]
    with_reducible refine wpList_not (by with_unfolding_all rfl) ?_
    simp only [Act.put, List.setIfInBounds_toArray, List.set_cons_zero, List.set_cons_succ]
    with_reducible refine wpList_not (by with_unfolding_all rfl) ?_
    simp only [Act.put, List.setIfInBounds_toArray, List.set_cons_zero, List.set_cons_succ]
    with_reducible refine wpList_not (by with_unfolding_all rfl) ?_
    simp only [Act.put, List.setIfInBounds_toArray, List.set_cons_zero, List.set_cons_succ]
    refine wpList_run rfl (.bool true) (by simp [go_sem]) ?_
    simp only [Act.put, List.setIfInBounds_toArray, List.set_cons_zero, List.set_cons_succ]
    refine wpList_run rfl (.bool true) (by simp [go_sem]) ?_
    simp only [Act.put, List.setIfInBounds_toArray, List.set_cons_zero, List.set_cons_succ]
    with_reducible refine wpList_not (by with_unfolding_all rfl) ?_
    simp only [Act.put, List.setIfInBounds_toArray, List.set_cons_zero, List.set_cons_succ]
    with_reducible refine wpList_not (by with_unfolding_all rfl) ?_
    simp only [Act.put, List.setIfInBounds_toArray, List.set_cons_zero, List.set_cons_succ]
    with_reducible refine wpList_not (by with_unfolding_all rfl) ?_
    simp only [Act.put, List.setIfInBounds_toArray, List.set_cons_zero, List.set_cons_succ]
    refine wpList_run rfl (.bool true) (by simp [go_sem]) ?_
    simp only [Act.put, List.setIfInBounds_toArray, List.set_cons_zero, List.set_cons_succ]
    go_wp2
    go_ret
    exact ⟨rfl, E5.out⟩

theorem contract (H : Type) (enc : TypeId × Value → H) (W : World) (base : Nat) (args : Array Value) (ds gs : List (DataW H)) (before : List MemPlace)
    (hval0 : ∀ (j : Nat) t v, Tryd.f7.params[j]? = some t → args[j]? = some v → Value.okWide Tryd.prog W .any base t v)
    (hW : DataW.Whole enc Tryd.prog Tryd.f7.params.toList Rows.treeBindsSpec.vars false W args.toList ds gs before) (hL : laidMetH Tryd.prog Rows.treeBindsRow.laid W) :
    Calls Tryd.prog 7 args W fun e W' => ∃ v, e = .returned v ∧ Rows.treeBindsSpec.post enc Tryd.prog Tryd.f7 false true false false W args v W' := by
  have hval := hval0
  have hW' := hW
  obtain ⟨p, q, hA0, hV, rfl, hfz, hnd⟩ := hW
  have hA : DataW.TrodAll enc Tryd.prog W 0 (fun _ => true) true Tryd.f7.params.toList args.toList ds p := hA0
  rw [Tryd.params7] at hA hval
  obtain ⟨v0, vs0, d0, ds0, p0, q0, hargs, rfl, rfl, h0, r0⟩ := trodAll_cons hA
  obtain ⟨v1, vs1, d1, ds1, p1, q1, rfl, rfl, rfl, h1, r1⟩ := trodAll_cons r0
  obtain ⟨v2, vs2, d2, ds2, p2, q2, rfl, rfl, rfl, h2, r2⟩ := trodAll_cons r1
  obtain ⟨v3, vs3, d3, ds3, p3, q3, rfl, rfl, rfl, h3, r3⟩ := trodAll_cons r2
  obtain ⟨v4, vs4, d4, ds4, p4, q4, rfl, rfl, rfl, h4, r4⟩ := trodAll_cons r3
  obtain ⟨v5, vs5, d5, ds5, p5, q5, rfl, rfl, rfl, h5, r5⟩ := trodAll_cons r4
  obtain ⟨v6, vs6, d6, ds6, p6, q6, rfl, rfl, rfl, h6, r6⟩ := trodAll_cons r5
  obtain ⟨rfl, rfl, rfl⟩ := trodAll_nil r6
  obtain rfl : args = #[v0, v1, v2, v3, v4, v5, v6] := by cases args; simp_all
  obtain ⟨rfl, rfl⟩ := trodVars_none hV
  have h0s : 0 < W.heap.size := by
    have hc := (table hL).cell gTab 0 (by decide)
    rcases Nat.lt_or_ge 0 W.heap.size with h | h
    · exact h
    · exfalso
      have : W.heap[0]? = none := Array.getElem?_eq_none h
      simp [World.cell?, this] at hc
  have hC : TabC W := tabC hL h0s
  have k0 := h0
  have lt0 : ∀ x ∈ p0, x.block < W.heap.size := by obtain ⟨m, hm⟩ := k0; exact DataW.trod_lt m _ _ _ hm
  have k1 := h1
  have lt1 : ∀ x ∈ p1, x.block < W.heap.size := by obtain ⟨m, hm⟩ := k1; exact DataW.trod_lt m _ _ _ hm
  have k2 := h2
  have lt2 : ∀ x ∈ p2, x.block < W.heap.size := by obtain ⟨m, hm⟩ := k2; exact DataW.trod_lt m _ _ _ hm
  have k3 := h3
  have lt3 : ∀ x ∈ p3, x.block < W.heap.size := by obtain ⟨m, hm⟩ := k3; exact DataW.trod_lt m _ _ _ hm
  have k4 := h4
  have lt4 : ∀ x ∈ p4, x.block < W.heap.size := by obtain ⟨m, hm⟩ := k4; exact DataW.trod_lt m _ _ _ hm
  have k5 := h5
  have lt5 : ∀ x ∈ p5, x.block < W.heap.size := by obtain ⟨m, hm⟩ := k5; exact DataW.trod_lt m _ _ _ hm
  have k6 := h6
  have lt6 : ∀ x ∈ p6, x.block < W.heap.size := by obtain ⟨m, hm⟩ := k6; exact DataW.trod_lt m _ _ _ hm
  obtain ⟨a0, rfl, rfl, rfl, w0⟩ := open_int Tryd.underlying3 (hval 0 3 v0 rfl rfl) h0
  obtain ⟨a1, rfl, rfl, rfl, w1⟩ := open_int Tryd.underlying3 (hval 1 3 v1 rfl rfl) h1
  obtain ⟨a2, rfl⟩ := open_arru8_32 (hval 2 25 v2 rfl rfl) h2
  have B3 := warg (hval 3 33 v3 rfl rfl) h3
  obtain ⟨a4, rfl⟩ := open_arru8_32 (hval 4 25 v4 rfl rfl) h4
  have B5 := warg (hval 5 33 v5 rfl rfl) h5
  obtain ⟨a6, rfl⟩ := open_arru8_32 (hval 6 25 v6 rfl rfl) h6
  clear hA0 hval0
  refine (walk a0 w0 a1 w1 a2 v3 a4 v5 a6 W B3 B5 hC).mono fun e W' ⟨he, bel⟩ => ?_
  subst he
  exact ⟨_, rfl, _, _, _, [], _, [], hW', trodAll_mk1 (shut_bool Tryd.underlying4 _), (trodAll_cons_mk (Below.trod laidOut (by kernel_rfl) (of_decide_eq_true (by kernel_rfl)) k0 bel lt0) (trodAll_cons_mk (Below.trod laidOut (by kernel_rfl) (of_decide_eq_true (by kernel_rfl)) k1 bel lt1) (trodAll_cons_mk (Below.trod laidOut (by kernel_rfl) (of_decide_eq_true (by kernel_rfl)) k2 bel lt2) (trodAll_cons_mk (Below.trod laidOut (by kernel_rfl) (of_decide_eq_true (by kernel_rfl)) k3 bel lt3) (trodAll_cons_mk (Below.trod laidOut (by kernel_rfl) (of_decide_eq_true (by kernel_rfl)) k4 bel lt4) (trodAll_cons_mk (Below.trod laidOut (by kernel_rfl) (of_decide_eq_true (by kernel_rfl)) k5 bel lt5) (trodAll_cons_mk (Below.trod laidOut (by kernel_rfl) (of_decide_eq_true (by kernel_rfl)) k6 bel lt6) trodAll_mk0))))))), rfl, bel.frame _, fun h => by cases h⟩

def wit : Array Value := #[.int .i64 0, .int .i64 0, .agg (List.replicate 32 (.int .u8 0)).toArray, .slice none 0 0, .agg (List.replicate 32 (.int .u8 0)).toArray, .slice none 0 0, .agg (List.replicate 32 (.int .u8 0)).toArray]
def dat {H : Type} : List (DataW H) := [.lit (.int .i64 0), .lit (.int .i64 0), .agg (List.replicate 32 (.lit (.int .u8 0))), .nil, .agg (List.replicate 32 (.lit (.int .u8 0))), .nil, .agg (List.replicate 32 (.lit (.int .u8 0)))]
def setTab : Obj → Obj
  | .cells _ t frozen => .cells (tabL.map fun z => Value.int .u32 z).toArray t frozen
  | o => o
theorem laid_met (os : Os) : laidMet Tryd.prog Rows.treeBindsRow.laid (({ World.holding Tryd.prog os ⟨#[], #[], []⟩ with heap := (World.holding Tryd.prog os ⟨#[], #[], []⟩).heap.modify 0 setTab } : World).forCall (fun _ _ => 0) ⟨#[], wit, []⟩).memory :=
  laidMet_of_run' 8 (by kernel_rfl) (by kernel_rfl)
theorem reads (os : Os) {H : Type} (enc : TypeId × Value → H) : ∃ places, DataW.whole enc Tryd.prog (({ World.holding Tryd.prog os ⟨#[], #[], []⟩ with heap := (World.holding Tryd.prog os ⟨#[], #[], []⟩).heap.modify 0 setTab } : World).forCall (fun _ _ => 0) ⟨#[], wit, []⟩).memory Tryd.f7.params.toList Rows.treeBindsSpec.vars false wit.toList 8 = some (dat, [], places) :=
  ⟨[], by kernel_rfl⟩

set_option maxRecDepth 100000 in
theorem lifted (os : Os) (started : os.Started) (H : Type) (enc : TypeId × Value → H) (F : Stop.Interp) :
    ReturnsInHanded {} Tryd.checked os 7 .any ((OpenSpec.ofChange Rows.treeBindsSpec).preRow enc Tryd.prog Tryd.f7 Rows.treeBindsRow.domain false Rows.treeBindsRow.laid) (((OpenSpec.ofChange Rows.treeBindsSpec).at F).post enc Tryd.prog Tryd.f7 false true false false) := by
  obtain ⟨places, hx⟩ := reads os enc
  refine returnsInHanded_of_row (C := Tryd.checked) (s := (OpenSpec.ofChange Rows.treeBindsSpec)) own started (by kernel_rfl) Tryd.func7
    (witness_row_at (enc := enc) (C := Tryd.checked) false ({ World.holding Tryd.prog os ⟨#[], #[], []⟩ with heap := (World.holding Tryd.prog os ⟨#[], #[], []⟩).heap.modify 0 setTab } : World) wit rfl (by kernel_rfl) (by kernel_rfl) (by kernel_rfl)
      (OpenSpec.preRow_of_cond 8 hx (by kernel_rfl) (fun k hk => by cases hk) (by kernel_rfl) (laid_met os))) ?_
  intro W base args ds gs before hval hW _ hcond hsz hL _ _
  exact contract H enc W base args ds gs before hval hW hL

theorem said : Rows.TreeBindsSaid :=
  OpenClaim.holds_of_cond 7 Tryd.f7 rfl rfl rfl rfl rfl rfl rfl ⟨rfl, rfl, rfl, rfl, rfl⟩ rfl rfl rfl rfl rfl (by kernel_rfl) Tryd.func7 (by kernel_rfl)
    (of_decide_eq_true (by kernel_rfl)) (by unfold Func.isWrapper; first | (rw [if_pos (by decide +kernel)]; kernel_rfl) | (rw [if_neg (by decide +kernel)]; exact ⟨rfl, rfl⟩))
    (fun os started H enc _ F => by rw [OpenClaim.pre_eq_preRow]; exact lifted os started H enc F)

theorem plain (f : FuncId) (fn : Func) (hf : Tryd.pinned.checked.prog.funcNamed "casket/casketlaw16.TreeBinds" = some f) (hfn : Tryd.pinned.checked.prog.funcs[f]? = some fn) :
    false = Tryd.pinned.checked.prog.looks [] ∧ ∀ (j : Nat) t, fn.params[j]? = some t → Tryd.pinned.checked.prog.wantsStandIn t = false := by
  obtain rfl : f = 7 := Option.some.inj ((show Tryd.prog.funcNamed "casket/casketlaw16.TreeBinds" = some 7 by kernel_rfl).symm.trans hf) |>.symm
  obtain rfl : fn = Tryd.f7 := (Option.some.inj (Tryd.func7.symm.trans hfn)).symm
  refine ⟨by kernel_rfl, fun j t ht => ?_⟩
  rw [Tryd.params7] at ht
  have hm : t ∈ [3, 3, 25, 33, 25, 33, 25] := by simpa using Array.mem_of_getElem? ht
  have hall : ([3, 3, 25, 33, 25, 33, 25].all fun u => !Tryd.prog.wantsStandIn u) = true := by kernel_rfl
  exact (show Tryd.prog.wantsStandIn t = false by simpa using List.all_eq_true.1 hall t hm)

theorem card : Rows.TreeBindsCardSaid :=
  Claim7.holds_tied_plain_at .later [] _ _ _ _ said (fun _ h => by cases h) (by kernel_rfl) (fun _ h => by cases h) treeBinds_row_tie rfl ⟨rfl, rfl⟩ (by kernel_rfl) rfl plain (by kernel_rfl)
end Go.Proofs.YtapmheocllicnaaDoor.treeBinds
namespace Go.Proofs.YtapmheocllicnaaDoor
theorem treeBinds_holds : Rows.TreeBindsCardSaid := treeBinds.card
end Go.Proofs.YtapmheocllicnaaDoor
