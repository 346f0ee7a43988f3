/-
  The document's units. The document's units, deciphered. The document's sealing and opening: their parts, their refusals.
-/
import Derived.Test.YtfpfgbhdehbggaaGreatDoorQb39
import Derived.Test.YtfpfgbhdehbggaaGreatDoorQb33
import Derived.Test.YtfpfgbhdehbggaaGreatDoorQb12
import Derived.Test.YtfpfgbhdehbggaaGreatDoorQb5
import Derived.OrdersHeld
import Derived.Test.YtfpfgbhdehbggaaGreatDoorQb15
import Derived.Test.YtfpfgbhdehbggaaGreatDoorQb26
import Derived.Test.YtfpfgbhdehbggaaGreatDoorQb1
import Derived.Test.YtfpfgbhdehbggaaGreatDoorQb34
namespace Go.Proofs.YtfpfgbhdehbggaaGreatDoor
set_option maxRecDepth 20000
open Go.RowKit Go.BigFrame
theorem lies_own {base : Nat} {v : Value} {n : Nat} {g : Nat → Value} {w : World} (h : OwnB base 5 v n g w) (hn : 0 < n) : ∃ b cap, v = .slice (some ⟨b, 0, none⟩) n cap ∧ n ≤ cap ∧ LieAt ⟨b, 0, none⟩ n g w ∧ RowAt b n g w ∧ base ≤ b := by
  obtain ⟨b, cap, h1, h2, h3, h4, h5⟩ := h.lies hn
  exact ⟨b, cap, h1, h3, lie_row h5, h5, h2⟩
theorem loadE {P : Program} {ρ : Operand → Value} {o : Oper} {X : World} (t : TypeId) (x : Operand) (b off n : Nat) (g : Nat → Value) {d : TypeDesc} (ho : o.op = .load t x) (hx : ρ x = .pointer (some ⟨b, off, none⟩)) (hc : X.rangeAt b off (row n g))
    (hu : P.underlying t = some d) (hd : d.isRow = true) (hi : (P.info? t).map (·.size) = some n) : (execOp ρ o).run P X = .ok (.value (.agg (row n g).toArray)) X := by
  unfold execOp
  simp only [ho, hx, Instr.loadAt, Instr.sureAddr, Sem.run_bind, Sem.run_pure, Result.andThen_ok, run_loadVar_mid (P := P) X b off t (row n g) _ hc hu hd (by rw [row_length]; exact hi)]
theorem idxE36 {ρ : Operand → Value} {o : Oper} {X : World} {x y : Operand} {tb L tc i : Nat} (ho : o.op = .indexAddr 125 x y) (hx : ρ x = .slice (some ⟨tb, 0, none⟩) L tc) (hy : ρ y = .int .i64 (i : Int)) (hi : i < L) : (execOp ρ o).run Tryz.prog X = .ok (.value (.pointer (some ⟨tb, i * 16, none⟩))) X := by
  have h0 : (0 : Int) ≤ (i : Int) := by omega
  have h1 : (i : Int) < (L : Int) := by omega
  unfold execOp
  simp [ho, hx, hy, go_sem, h0, h1]
theorem exec_store0 {P : Program} {o : Oper} {a : Act} {w : World} (t : TypeId) (x y : Operand) (ho : o.op = .store t x y) (b n : Nat) (g g' : Nat → Value) (hx : a.eval x = .pointer (some ⟨b, 0, none⟩)) (hy : a.eval y = .agg (row n g').toArray) (h : RowAt b n g w)
    (hi : (P.info? t).map (·.size) = some n) (h1 : ∀ j, j < n → (g' j).oneCell' = true) : (execOp a.eval o).run P w = .ok .skip (w.setCells b 0 (row n g')) := by
  unfold execOp
  simp only [ho, hx, hy, Instr.storeAt, Instr.sureAddr, Sem.run_bind, Sem.run_pure, Result.andThen_ok, run_storeVar_mid (P := P) w b 0 t (row n g').toArray (by rw [row_size]; exact h.there) (by rw [row_size]; exact hi) (row_one h1)]
theorem exec_appendX {P : Program} {o : Oper} {a : Act} {w w' : World} (s x : Operand) (t u : TypeId) (ho : o.op = .call { callee := .builtin .append, args := #[s, x], argTypes := #[t, u] }) (v y v' : Value) (hs : a.eval s = v) (hx : a.eval x = y) (hr : (Builtin.append_ #[t, u] o.type #[v, y]).run P w = .ok v' w') : (execOp a.eval o).run P w = .ok (.value v') w' := by
  unfold execOp
  simp only [ho, resolve, invoke, builtin, Sem.run_bind, Sem.run_pure, Result.andThen_ok, List.map_toArray, List.map_cons, List.map_nil, hs, hx, hr]
theorem run_growF {w : World} {base n : Nat} {v : Value} {g : Nat → Value} (ty : TypeId) (h : OwnB base 5 v n g w) (ad : Addr) (m c : Nat) (u f : Nat → Value) (hb : LieAt ad m u w) (h1 : ∀ j, j < m → (u j).oneCell' = true) (hf1 : ∀ j, j < n → g j = f j) (hf2 : ∀ j, j < m → u j = f (n + j)) (hnm : n + m ≤ 1000000) (hbase : base ≤ w.heap.size) :
    ∃ v' w', (Builtin.append_ #[25, 25] ty #[v, .slice (some ad) m c]).run Tryz.prog w = .ok v' w' ∧ OwnB base 5 v' (n + m) f w' ∧ w.grownBy w' v.ownBlock := by
  obtain ⟨i, z, e1, e2, e3, e4, e5⟩ := elem22A.info
  obtain ⟨v', w', k1, k2, k3, _⟩ := run_append_own (P := Tryz.prog) w base 25 ty 5 i z 1 1 elem22A.slice e1 e2 e3 e4 e5 (by decide) v n (row n g) h ad m c (row m u) (by rw [row_length, Nat.mul_one]) (fun j x hj => by
    obtain ⟨hj', rfl⟩ := row_some hj
    exact hb.1 j hj') (fun x hx => by
    obtain ⟨j, hj, rfl⟩ := List.mem_map.1 hx
    exact h1 j (by simpa using hj)) (by unfold maxLen; omega) (by omega) hbase
  refine ⟨v', w', k1, ?_, k3⟩
  unfold OwnB
  rw [row_append n m g u f hf1 hf2] at k2
  exact k2
theorem add_none (c o j : Nat) : (⟨c, o, none⟩ : Addr).add j = ⟨c, o + j, none⟩ := by
  unfold Addr.add
  by_cases h : j = 0
  · subst h; rw [if_pos rfl]; rfl
  · rw [if_neg h]
theorem cutU (a : Addr) (l cap n : Nat) (h1 : 16 * n + 16 ≤ l) (h2 : l ≤ cap) (h3 : 16 * n + 16 ≤ 65536) (X : World) : Sem.run Tryz.prog (Instr.sliceAt 25 (.slice (some a) l cap) (some (.int .i64 (16 * (n : Int)))) (some (.int .i64 (16 * (n : Int) + 16))) none) X = .ok (.slice (some (a.add (16 * n))) 16 (cap - 16 * n)) X := by
  have n0 : (0 : Int) ≤ (n : Int) := by omega
  have n3 : (0 : Int) ≤ 16 * (n : Int) := by omega
  have n4 : 16 * (n : Int) ≤ 16 * (n : Int) + 16 := by omega
  have n5 : (0 : Int) ≤ 16 * (n : Int) + 16 := by omega
  have n6 : 16 * (n : Int) + 16 ≤ (cap : Int) := by omega
  have n7 : ¬ cap = 16 * n := by omega
  have n8 : (16 * (n : Int)).toNat = 16 * n := by omega
  have n9 : (16 * (n : Int) + 16).toNat = 16 * n + 16 := by omega
  have n10 : 16 * n + 16 - 16 * n = 16 := by omega
  have n11 : IntKind.i64.wrap (16 * (n : Int)) = 16 * (n : Int) := by rw [IntKind.wrap_i64]; omega
  have n12 : IntKind.i64.wrap (16 * (n : Int) + 16) = 16 * (n : Int) + 16 := by rw [IntKind.wrap_i64]; omega
  simp [go_sem, n3, n4, n6, n7, n8, n9, n10]
theorem cutV2 (a : Addr) (l cap n sh : Nat) (h1 : l = 16 * n + 16 + sh) (h2 : l ≤ cap) (h3 : l ≤ 65536) (h4 : 0 < sh) (X : World) : Sem.run Tryz.prog (Instr.sliceAt 25 (.slice (some a) l cap) (some (.int .i64 (16 * (n : Int) + 16))) none none) X = .ok (.slice (some (a.add (16 * n + 16))) sh (cap - (16 * n + 16))) X := by
  have n0 : (0 : Int) ≤ (n : Int) := by omega
  have n5 : (0 : Int) ≤ 16 * (n : Int) + 16 := by omega
  have n6 : 16 * (n : Int) + 16 ≤ (l : Int) := by omega
  have n7 : ¬ cap = 16 * n + 16 := by omega
  have n9 : (16 * (n : Int) + 16).toNat = 16 * n + 16 := by omega
  have n10 : l - (16 * n + 16) = sh := by omega
  have n12 : IntKind.i64.wrap (16 * (n : Int) + 16) = 16 * (n : Int) + 16 := by rw [IntKind.wrap_i64]; omega
  simp [go_sem, n5, n6, n7, n9, n10]
theorem cutC (cb cc sh : Nat) (h1 : 16 ≤ cc) (h2 : sh < 16) (h3 : 0 < sh) (X : World) : Sem.run Tryz.prog (Instr.sliceAt 25 (.slice (some ⟨cb, 0, none⟩) 16 cc) (some (.int .i64 (sh : Int))) none none) X = .ok (.slice (some ⟨cb, sh, none⟩) (16 - sh) (cc - sh)) X := by
  have n5 : (0 : Int) ≤ (sh : Int) := by omega
  have n6 : (sh : Int) ≤ 16 := by omega
  have n7 : ¬ cc = sh := by omega
  have n8 : (⟨cb, 0, none⟩ : Addr).add sh = ⟨cb, sh, none⟩ := by rw [add_none, Nat.zero_add]
  have n12 : IntKind.i64.wrap (sh : Int) = (sh : Int) := by rw [IntKind.wrap_i64]; omega
  simp [go_sem, n5, n6, n7]
theorem cutD (cb cc sh : Nat) (h1 : 16 ≤ cc) (h2 : sh < 16) (X : World) : Sem.run Tryz.prog (Instr.sliceAt 25 (.slice (some ⟨cb, 0, none⟩) 16 cc) none (some (.int .i64 (sh : Int))) none) X = .ok (.slice (some ⟨cb, 0, none⟩) sh cc) X := by
  have n5 : (0 : Int) ≤ (sh : Int) := by omega
  have n6 : (sh : Int) ≤ (cc : Int) := by omega
  have n12 : IntKind.i64.wrap (sh : Int) = (sh : Int) := by rw [IntKind.wrap_i64]; omega
  simp [go_sem, n5, n6]
end Go.Proofs.YtfpfgbhdehbggaaGreatDoor
namespace Go.Proofs.YtfpfgbhdehbggaaGreatDoor
set_option maxRecDepth 20000
open Go.RowKit Go.BigFrame
set_option maxRecDepth 20000 in
set_option maxHeartbeats 8000000 in
theorem runitD_any (base0 q r l cap : Nat) (S1 S2 : Nat → BitVec 8) (hr : 1 ≤ r) (hr2 : r ≤ 14) (u : BitVec 64) (a : Addr) (D : Nat → BitVec 8) (w : World) (hP : RPairAt base0 q r S1 S2 w) (hl1 : 16 ≤ l) (hl2 : l ≤ 65536) (hcap : l ≤ cap) (hD : LieAt a l (yv D) w) :
    Calls Tryz.prog 42 #[.pointer (some ⟨q, 0, none⟩), .int .u64 (u.toNat : Int), .slice (some a) l cap, .bool true] w fun e w' => ∃ v, e = .returned (.tuple #[v, .int .i64 0]) ∧ OwnB w.heap.size 5 v l (yv (xD S1 S2 r u D l)) w' ∧ Below w.heap.size w w' := by
  have i0 : ¬ (l : Int) < 16 := by omega
  have i1 : ¬ (65536 : Int) < (l : Int) := by omega
  have l0 : (0 : Int) ≤ (l : Int) := by omega
  obtain ⟨wh, hwh⟩ : ∃ wh, wh = l / 16 := ⟨_, rfl⟩
  obtain ⟨sh, hsh⟩ : ∃ sh, sh = l % 16 := ⟨_, rfl⟩
  have hdiv : (l : Int) / 16 = (wh : Int) := by omega
  have hmod : ((l : Int)).tmod 16 = (sh : Int) := by rw [hsh, Int.tmod_eq_emod_of_nonneg (by omega)]; omega
  have w0' : (0 : Int) ≤ (wh : Int) := by omega
  have w1' : (wh : Int) ≤ 4096 := by omega
  have htw := hideit (rtweaks_any base0 q r (wh + 1) S1 S2 hr hr2 u (by omega) w hP)
  obtain ⟨t0, ht0⟩ : ∃ t0, t0 = tw0 S2 r u := ⟨_, rfl⟩
  rw [← ht0] at htw
  obtain ⟨ch, hch⟩ : ∃ ch, ch = chF (decF S1 ubT twT r) := ⟨_, rfl⟩
  obtain ⟨nb, hnb⟩ : ∃ nb, nb = nbOf l := ⟨_, rfl⟩
  have hspec := nbOf_spec l hl1
  rw [← hnb] at hspec
  have htw' : Hid (Calls Tryz.prog 73 #[.pointer (some ⟨q, 0, none⟩), .int .u64 (u.toNat : Int), .int .i64 ((wh : Int) + 1)] w fun e w' => ∃ v, e = .returned v ∧ OwnN w.heap.size 52 16 v (wh + 1) (yv (twsF t0)) w' ∧ Below w.heap.size w w') := htw.out
  replace hP := hideit hP
  replace hD := hideit hD
  replace ht0 := hideit ht0
  replace hch := hideit hch
  replace hnb := hideit hnb
  clear htw
  rcases hspec with ⟨hm0, hlm⟩ | ⟨hm0, hlm⟩
  · have hs0 : ¬ (0 : Int) < (sh : Int) := by omega
    have hs1 : ((sh : Int) == 0) = true := by rw [beq_iff_eq]; omega
    obtain rfl : wh = nb := by omega
    have hle : 16 * wh ≤ l := by omega
    replace hlm := hideit hlm
    replace hm0 := hideit hm0
    clear hwh hsh
    go_enter Tryz.func42, Tryz.ntmps42
    go_upto_region 5 with (go_at_call 73; refine htw'.out.mono ?_; rintro e WB ⟨vt, rfl, hOt, hBt⟩)
    obtain ⟨tb, tc, hvt, htb, htc, _, hTW⟩ := hOt.lies (by omega)
    subst hvt
    have HTW := hideit hTW
    have HDB := hideit (hD.out.carry hBt)
    have HPB := hideit (hP.out.ext hBt)
    have HEB : Hid (Ext w WB) := hideit hBt
    clear hTW hOt hBt
    clear htw'
    go_upto_region 10 with (fail)
    go_loopw [13, 15] (fun v i wr => ∃ n : Nat, n ≤ wh ∧ i = .int .i64 (n : Int) ∧ OwnB WB.heap.size 5 v (16 * n) (yv (fronts ch t0 D)) wr ∧ Ext WB wr) (fun _ i _ => 5000 - (intOf i).toNat)
    case atStart => exact ⟨0, by omega, rfl, own_nil _ _ _ _, Ext.refl _⟩
    case round =>
      obtain ⟨n, hn, rfl, hO, hE⟩ := hrel
      have HO := hideit hO
      have HE := hideit hE
      clear hO hE
      by_cases hlt : n < wh
      · have n0 : (0 : Int) ≤ (n : Int) := by omega
        have n1 : (n : Int) < (wh : Int) := by omega
        have n3 : (0 : Int) ≤ 16 * (n : Int) := by omega
        have n4 : 16 * (n : Int) ≤ 16 * (n : Int) + 16 := by omega
        have n5 : 16 * (n : Int) + 16 ≤ (l : Int) := by omega
        have n6 : 16 * (n : Int) + 16 ≤ (cap : Int) := by omega
        have n7 : ¬ cap = 16 * n := by omega
        have n8 : (n : Int) < (wh : Int) + 1 := by omega
        have n9 : 16 * (n : Int) + 16 ≤ 65536 := by omega
        have n10 : 16 * n + 16 - 16 * n = 16 := by omega
        obtain ⟨f, hf⟩ : ∃ f : Nat → BitVec 8, f = fun j => D (16 * n + j) := ⟨_, rfl⟩
        obtain ⟨tt, htt⟩ : ∃ tt, tt = byBA (dK 135#128 n t0) := ⟨_, rfl⟩
        have HTR : Hid (∀ X, Ext WB X → X.rangeAt tb (n * 16) (row 16 (yv tt))) := fun X hX j v hvA => by
          obtain ⟨hj, rfl⟩ := row_some hvA
          rw [(HTW.out.carry hX).1 (n * 16 + j) (by omega)]
          simp only [yv, twsF]
          rw [show (n * 16 + j) / 16 = n by omega, show (n * 16 + j) % 16 = j by omega, htt]
        have HL : Hid (∀ X, Ext WB X → LieAt (a.add (16 * n)) 16 (yv f) X) := fun X hX => by
          have h1 := HDB.out.carry hX
          refine ⟨fun j hj => ?_, by rw [add_block]; exact h1.2⟩
          rw [add_add', h1.1 (16 * n + j) (by omega), hf]
          rfl
        obtain ⟨G, hG⟩ : ∃ G, G = addF ((decF S1 ubT twT r) (addF f tt)) tt := ⟨_, rfl⟩
        have hGG : Hid (∀ j, j < 16 → G j = fronts ch t0 D (16 * n + j)) := fun j hj => by
          unfold fronts
          rw [show (16 * n + j) / 16 = n by omega, show (16 * n + j) % 16 = j by omega, hG, hch.out, htt, hf]
          rfl
        have hat : Hid (∀ X, Ext WB X → Calls Tryz.prog 74 #[.pointer (some ⟨q, 0, none⟩), .slice (some (a.add (16 * n))) 16 (cap - 16 * n), .agg (row 16 (yv tt)).toArray, .bool true] X fun e w' => ∃ v, e = .returned v ∧ OwnB X.heap.size 5 v 16 (yv G) w' ∧ Below X.heap.size X w') := fun X hX => by
          rw [hG]; exact ratD_any base0 q r S1 S2 hr hr2 (a.add (16 * n)) (cap - 16 * n) f tt X (HPB.out.ext hX) (HL.out X hX)
        clear hG hf htt HL
        have hne := kept_ne wr.drew
        go_upto_region 12 with (fail)
        refine wp_region_lateF [0] [_] [1, 2, 3, 4, 5, 6, 7, 8, 9, 10, 11, 12, 13] [_, _, _, _, _, _, _, _, _, _, _, _, _] [14, 15, 16] [_, _, _] (by kernel_rfl) (by kernel_rfl) (fun _ _ _ _ _ h => h) (by kernel_rfl) rfl (by kernel_rfl) rfl rfl (by decide +kernel) (by kernel_rfl) (by kernel_rfl) (by decide +kernel) (by decide +kernel) (by decide +kernel) (by decide +kernel) (by decide +kernel) (by decide +kernel) ?_
        simp only [List.getElem_toArray, List.getElem_cons_zero, List.getElem_cons_succ]
        refine wpPure_one u13 rfl (fun X => by simp [go_sem]) ?_
        simp only [zp0, zp1, zp2, zp3]
        refine wpPure_nil ?_
        refine wpStrong_run 13 rfl ?_
        simp only [List.take_succ_cons, List.take_zero, List.drop_succ_cons, List.drop_zero]
        repeat (go_big_quiet_step (fail))
        go_big_quiet_want
        refine loadQ 52 (.tmp 61) tb (n * 16) 16 (yv tt) rfl rfl (fun w' hw' => HTR.out w' (Ext.trans (Ext.trans HE.out ((Below.refl _ _).drew)) hw')) Tryz.underlying52 rfl info32 ?_
        simp only [zp0, zp1, zp2, zp3]
        go_big_quiet_on
        repeat (go_big_quiet_step (fail))
        refine wpQuiet_nil ?_
        refine wpStrong_nil ?_
        intro X hX
        have hX' : Ext wr X := Ext.trans ((Below.refl _ _).drew) hX
        have HOX := hideit (HO.out.ext hX')
        have HEX : Hid (Ext WB X) := hideit (Ext.trans HE.out hX')
        have hatX := hideit (hat.out X HEX.out)
        clear hne hX hX' HO HE HTR hat
        try rw [n10]
        refine wpList_call rfl (by simp [go_sem]) (hatX.out.mono ?_)
        rintro e w5 ⟨v5, rfl, hO5, h5⟩
        refine ⟨_, rfl, ?_⟩
        simp only [zp0, zp1, zp2, zp3]
        have HO5 := HOX.out.ext h5
        have HE5 : Ext WB w5 := Ext.trans HEX.out h5
        refine wpList_growV (n := 16 * n) elem22A rfl (.tmp 50) (.tmp 64) rfl rfl HO5 v5 16 G (yv (fronts ch t0 D)) rfl hO5.bv (fun _ _ => rfl) (fun j hj => by simp only [yv]; rw [hGG.out j hj]) (by omega) (Below.size HE5) ?_
        intro v6 w6 ho hg
        have HE6 : Hid (Ext WB w6) := hideit (gr_ext HE5 hg (fun k h => (HO5.lt k h).1))
        rw [show 16 * n + 16 = 16 * (n + 1) by omega] at ho
        replace ho := hideit ho
        clear hg HO5 HE5 hO5 h5 HOX HEX hatX hGG
        simp only [zp0, zp1, zp2, zp3]
        go_wp2
        go_roundw
        case rel =>
          first | exact ⟨(n + 1 : Nat), by omega, by go_num, ho.out, HE6.out⟩ | ((repeat apply Exists.intro); exact ⟨⟨n + 1, by omega, by go_num, ho.out, HE6.out⟩, rfl⟩)
        case measure => simp [intOf]; omega
      · obtain rfl : n = wh := by omega
        have n1 : ¬ (n : Int) < (n : Int) := by omega
        have HOF : OwnB w.heap.size 5 u13 l (yv (xD S1 S2 r u D l)) wr := by
          have h8 : xD S1 S2 r u D l = fronts ch t0 D := by
            rw [xD_unit]; unfold unitF; rw [if_pos hm0.out, hch.out, ht0.out]
          rw [h8]
          have h7 := HO.out
          rw [← hlm.out] at h7
          exact ⟨h7.1, h7.2.imp id fun ⟨g, cp, cur, k1, k2, k3⟩ => ⟨g, cp, cur, k1, by have := Below.size HEB.out; omega, k3⟩⟩
        have HBF : Hid (Ext w wr) := hideit (Ext.trans HEB.out HE.out)
        replace HOF := hideit HOF
        clear HO HE
        go_wp2
        refine bodyPost_ret (results_tmp2 Tryz.results42 _ _ _) rfl ?_
        exact ⟨u13, rfl, HOF.out, HBF.out⟩
  · have hs0 : (0 : Int) < (sh : Int) := by omega
    have hs1 : ((sh : Int) == 0) = false := by rw [beq_eq_false_iff_ne]; omega
    have hs2 : (sh : Int) < 16 := by omega
    have hw1 : (wh : Int) - 1 = (nb : Int) := by omega
    have hw2 : Hid (wh = nb + 1) := by unfold Hid; omega
    have hw3 : Hid (l = 16 * nb + 16 + sh ∧ sh < 16 ∧ 0 < sh ∧ sh = l % 16) := by unfold Hid; omega
    have hle : 16 * nb ≤ l := by omega
    have hle2 : nb + 1 ≤ wh := by omega
    replace hlm := hideit hlm
    replace hm0 := hideit hm0
    clear hwh hsh
    go_enter Tryz.func42, Tryz.ntmps42
    go_upto_region 5 with (go_at_call 73; refine htw'.out.mono ?_; rintro e WB ⟨vt, rfl, hOt, hBt⟩)
    obtain ⟨tb, tc, hvt, htb, htc, _, hTW⟩ := hOt.lies (by omega)
    subst hvt
    have HTW := hideit hTW
    have HDB := hideit (hD.out.carry hBt)
    have HPB := hideit (hP.out.ext hBt)
    have HEB : Hid (Ext w WB) := hideit hBt
    clear hTW hOt hBt
    clear htw'
    go_upto_region 10 with (fail)
    go_loopw [13, 15] (fun v i wr => ∃ n : Nat, n ≤ nb ∧ i = .int .i64 (n : Int) ∧ OwnB WB.heap.size 5 v (16 * n) (yv (fronts ch t0 D)) wr ∧ Ext WB wr) (fun _ i _ => 5000 - (intOf i).toNat)
    case atStart => exact ⟨0, by omega, rfl, own_nil _ _ _ _, Ext.refl _⟩
    case round =>
      obtain ⟨n, hn, rfl, hO, hE⟩ := hrel
      have HO := hideit hO
      have HE := hideit hE
      clear hO hE
      by_cases hlt : n < nb
      · have n0 : (0 : Int) ≤ (n : Int) := by omega
        have n1 : (n : Int) < (nb : Int) := by omega
        have n3 : (0 : Int) ≤ 16 * (n : Int) := by omega
        have n4 : 16 * (n : Int) ≤ 16 * (n : Int) + 16 := by omega
        have n5 : 16 * (n : Int) + 16 ≤ (l : Int) := by omega
        have n6 : 16 * (n : Int) + 16 ≤ (cap : Int) := by omega
        have n7 : ¬ cap = 16 * n := by omega
        have n8 : (n : Int) < (wh : Int) + 1 := by omega
        have n9 : 16 * (n : Int) + 16 ≤ 65536 := by omega
        have n10 : 16 * n + 16 - 16 * n = 16 := by omega
        obtain ⟨f, hf⟩ : ∃ f : Nat → BitVec 8, f = fun j => D (16 * n + j) := ⟨_, rfl⟩
        obtain ⟨tt, htt⟩ : ∃ tt, tt = byBA (dK 135#128 n t0) := ⟨_, rfl⟩
        have HTR : Hid (∀ X, Ext WB X → X.rangeAt tb (n * 16) (row 16 (yv tt))) := fun X hX j v hvA => by
          obtain ⟨hj, rfl⟩ := row_some hvA
          rw [(HTW.out.carry hX).1 (n * 16 + j) (by omega)]
          simp only [yv, twsF]
          rw [show (n * 16 + j) / 16 = n by omega, show (n * 16 + j) % 16 = j by omega, htt]
        have HL : Hid (∀ X, Ext WB X → LieAt (a.add (16 * n)) 16 (yv f) X) := fun X hX => by
          have h1 := HDB.out.carry hX
          refine ⟨fun j hj => ?_, by rw [add_block]; exact h1.2⟩
          rw [add_add', h1.1 (16 * n + j) (by omega), hf]
          rfl
        obtain ⟨G, hG⟩ : ∃ G, G = addF ((decF S1 ubT twT r) (addF f tt)) tt := ⟨_, rfl⟩
        have hGG : Hid (∀ j, j < 16 → G j = fronts ch t0 D (16 * n + j)) := fun j hj => by
          unfold fronts
          rw [show (16 * n + j) / 16 = n by omega, show (16 * n + j) % 16 = j by omega, hG, hch.out, htt, hf]
          rfl
        have hat : Hid (∀ X, Ext WB X → Calls Tryz.prog 74 #[.pointer (some ⟨q, 0, none⟩), .slice (some (a.add (16 * n))) 16 (cap - 16 * n), .agg (row 16 (yv tt)).toArray, .bool true] X fun e w' => ∃ v, e = .returned v ∧ OwnB X.heap.size 5 v 16 (yv G) w' ∧ Below X.heap.size X w') := fun X hX => by
          rw [hG]; exact ratD_any base0 q r S1 S2 hr hr2 (a.add (16 * n)) (cap - 16 * n) f tt X (HPB.out.ext hX) (HL.out X hX)
        clear hG hf htt HL
        have hne := kept_ne wr.drew
        go_upto_region 12 with (fail)
        refine wp_region_lateF [0] [_] [1, 2, 3, 4, 5, 6, 7, 8, 9, 10, 11, 12, 13] [_, _, _, _, _, _, _, _, _, _, _, _, _] [14, 15, 16] [_, _, _] (by kernel_rfl) (by kernel_rfl) (fun _ _ _ _ _ h => h) (by kernel_rfl) rfl (by kernel_rfl) rfl rfl (by decide +kernel) (by kernel_rfl) (by kernel_rfl) (by decide +kernel) (by decide +kernel) (by decide +kernel) (by decide +kernel) (by decide +kernel) (by decide +kernel) ?_
        simp only [List.getElem_toArray, List.getElem_cons_zero, List.getElem_cons_succ]
        refine wpPure_one u13 rfl (fun X => by simp [go_sem]) ?_
        simp only [zp0, zp1, zp2, zp3]
        refine wpPure_nil ?_
        refine wpStrong_run 13 rfl ?_
        simp only [List.take_succ_cons, List.take_zero, List.drop_succ_cons, List.drop_zero]
        repeat (go_big_quiet_step (fail))
        go_big_quiet_want
        refine loadQ 52 (.tmp 61) tb (n * 16) 16 (yv tt) rfl rfl (fun w' hw' => HTR.out w' (Ext.trans (Ext.trans HE.out ((Below.refl _ _).drew)) hw')) Tryz.underlying52 rfl info32 ?_
        simp only [zp0, zp1, zp2, zp3]
        go_big_quiet_on
        repeat (go_big_quiet_step (fail))
        refine wpQuiet_nil ?_
        refine wpStrong_nil ?_
        intro X hX
        have hX' : Ext wr X := Ext.trans ((Below.refl _ _).drew) hX
        have HOX := hideit (HO.out.ext hX')
        have HEX : Hid (Ext WB X) := hideit (Ext.trans HE.out hX')
        have hatX := hideit (hat.out X HEX.out)
        clear hne hX hX' HO HE HTR hat
        try rw [n10]
        refine wpList_call rfl (by simp [go_sem]) (hatX.out.mono ?_)
        rintro e w5 ⟨v5, rfl, hO5, h5⟩
        refine ⟨_, rfl, ?_⟩
        simp only [zp0, zp1, zp2, zp3]
        have HO5 := HOX.out.ext h5
        have HE5 : Ext WB w5 := Ext.trans HEX.out h5
        refine wpList_growV (n := 16 * n) elem22A rfl (.tmp 50) (.tmp 64) rfl rfl HO5 v5 16 G (yv (fronts ch t0 D)) rfl hO5.bv (fun _ _ => rfl) (fun j hj => by simp only [yv]; rw [hGG.out j hj]) (by omega) (Below.size HE5) ?_
        intro v6 w6 ho hg
        have HE6 : Hid (Ext WB w6) := hideit (gr_ext HE5 hg (fun k h => (HO5.lt k h).1))
        rw [show 16 * n + 16 = 16 * (n + 1) by omega] at ho
        replace ho := hideit ho
        clear hg HO5 HE5 hO5 h5 HOX HEX hatX hGG
        simp only [zp0, zp1, zp2, zp3]
        go_wp2
        go_roundw
        case rel =>
          first | exact ⟨(n + 1 : Nat), by omega, by go_num, ho.out, HE6.out⟩ | ((repeat apply Exists.intro); exact ⟨⟨n + 1, by omega, by go_num, ho.out, HE6.out⟩, rfl⟩)
        case measure => simp [intOf]; omega
      · obtain rfl : n = nb := by omega
        have n1 : ¬ (n : Int) < (n : Int) := by omega
        have q0 : (0 : Int) ≤ (wh : Int) - 1 := by omega
        have q2 : (n : Int) < (wh : Int) + 1 := by omega
        have q3 : (n : Int) + 1 < (wh : Int) + 1 := by omega
        have q4 : (0 : Int) ≤ (n : Int) := by omega
        have q5 : (n : Int) ≤ 4096 := by omega
        obtain ⟨T1, hT1⟩ : ∃ T1, T1 = dK 135#128 n t0 := ⟨_, rfl⟩
        obtain ⟨T2, hT2⟩ : ∃ T2, T2 = dX 135#128 (dK 135#128 n t0) := ⟨_, rfl⟩
        obtain ⟨y1, hy1⟩ : ∃ y1, y1 = byBA T1 := ⟨_, rfl⟩
        obtain ⟨y2, hy2⟩ : ∃ y2, y2 = byBA T2 := ⟨_, rfl⟩
        have HTR : Hid (∀ X, Ext WB X → X.rangeAt tb (n * 16) (row 16 (yv y1)) ∧ X.rangeAt tb ((n + 1) * 16) (row 16 (yv y2))) := fun X hX => ⟨fun j v hvA => by
          obtain ⟨hj, rfl⟩ := row_some hvA
          rw [(HTW.out.carry hX).1 (n * 16 + j) (by omega)]
          simp only [yv, twsF]
          rw [show (n * 16 + j) / 16 = n by omega, show (n * 16 + j) % 16 = j by omega, hy1, hT1], fun j v hvA => by
          obtain ⟨hj, rfl⟩ := row_some hvA
          rw [(HTW.out.carry hX).1 ((n + 1) * 16 + j) (by omega)]
          simp only [yv, twsF]
          rw [show ((n + 1) * 16 + j) / 16 = n + 1 by omega, show ((n + 1) * 16 + j) % 16 = j by omega, hy2, hT2]
          rfl⟩
        obtain ⟨f, hf⟩ : ∃ f : Nat → BitVec 8, f = fun j => D (16 * n + j) := ⟨_, rfl⟩
        obtain ⟨L, hL⟩ : ∃ L, L = addF ((decF S1 ubT twT r) (addF f y2)) y2 := ⟨_, rfl⟩
        have hLL : Hid (L = lendF ch T2 D (16 * n)) := by unfold Hid lendF; rw [hL, hch.out, hf, hy2]; rfl
        obtain ⟨PF, hPF⟩ : ∃ PF, PF = fillFA L D (16 * n) sh := ⟨_, rfl⟩
        obtain ⟨G, hG⟩ : ∃ G, G = addF ((decF S1 ubT twT r) (addF PF y1)) y1 := ⟨_, rfl⟩
        have hGG : Hid (G = ch T1 (fillFA (lendF ch T2 D (16 * n)) D (16 * n) sh)) := by unfold Hid; rw [hG, hPF, ← hLL.out, hch.out, hy1]; rfl
        have hat1 : Hid (∀ X, Ext WB X → Calls Tryz.prog 74 #[.pointer (some ⟨q, 0, none⟩), .slice (some (a.add (16 * n))) 16 (cap - 16 * n), .agg (row 16 (yv y2)).toArray, .bool true] X fun e w' => ∃ v, e = .returned v ∧ OwnB X.heap.size 5 v 16 (yv L) w' ∧ Below X.heap.size X w') := fun X hX => by
          rw [hL]
          refine ratD_any base0 q r S1 S2 hr hr2 (a.add (16 * n)) (cap - 16 * n) f y2 X (HPB.out.ext hX) ?_
          have h1 := HDB.out.carry hX
          refine ⟨fun j hj => ?_, by rw [add_block]; exact h1.2⟩
          rw [add_add', h1.1 (16 * n + j) (by have := hw3.out; omega), hf]
          rfl
        have hat2 : Hid (∀ X, Ext WB X → ∀ lb lc, LieAt ⟨lb, 0, none⟩ 16 (yv PF) X → Calls Tryz.prog 74 #[.pointer (some ⟨q, 0, none⟩), .slice (some ⟨lb, 0, none⟩) 16 lc, .agg (row 16 (yv y1)).toArray, .bool true] X fun e w' => ∃ v, e = .returned v ∧ OwnB X.heap.size 5 v 16 (yv G) w' ∧ Below X.heap.size X w') := fun X hX lb lc h => by
          rw [hG]
          exact ratD_any base0 q r S1 S2 hr hr2 ⟨lb, 0, none⟩ lc PF y1 X (HPB.out.ext hX) h
        have HSA : Hid (∀ X, Ext WB X → LieAt (a.add (16 * n + 16)) sh (yv fun i => D (16 * n + 16 + i)) X) := fun X hX => by
          have h1 := HDB.out.carry hX
          refine ⟨fun j hj => ?_, by rw [add_block]; exact h1.2⟩
          rw [add_add', h1.1 (16 * n + 16 + j) (by have := hw3.out; omega)]
          rfl
        replace hPF := hideit hPF
        replace hT1 := hideit hT1
        replace hT2 := hideit hT2
        clear hL hG hy1 hy2 hf
        have hne := kept_ne wr.drew
        go_upto_region 16 with (fail)
        refine wp_region_made2s 9 16 (yv fun _ => 0#8) 16 (yv fun _ => 0#8) (yv y1) _ _ _ (by kernel_rfl) (by kernel_rfl) rfl rfl rfl (makes23 rfl rfl) (makes23 rfl rfl) ?_
        simp only [List.take_succ_cons, List.take_zero, List.drop_succ_cons, List.drop_zero]
        refine wpStrong_run 9 rfl ?_
        simp only [List.take_succ_cons, List.take_zero, List.drop_succ_cons, List.drop_zero]
        repeat (go_big_quiet_step (fail))
        go_big_quiet_want
        refine loadQ 52 (.tmp 73) tb (n * 16) 16 (yv y1) rfl rfl (fun w' hw' => (HTR.out w' (Ext.trans (Ext.trans HE.out ((Below.refl _ _).drew)) hw')).1) Tryz.underlying52 rfl info32 ?_
        simp only [zp0, zp1, zp2, zp3]
        go_big_quiet_on
        repeat (go_big_quiet_step (fail))
        go_big_quiet_want
        refine loadQ 52 (.tmp 78) tb ((n + 1) * 16) 16 (yv y2) rfl rfl (fun w' hw' => (HTR.out w' (Ext.trans (Ext.trans HE.out ((Below.refl _ _).drew)) hw')).2) Tryz.underlying52 rfl info32 ?_
        simp only [zp0, zp1, zp2, zp3]
        go_big_quiet_on
        refine wpQuiet_nil ?_
        refine wpStrong_nil ?_
        intro b1 b2 hb1 hb2 hb12
        simp only [zp0, zp1, zp2, zp3]
        refine ⟨writes_row rfl 52 (.tmp 17) (.tmp 74) rfl b1 16 _ _ rfl rfl info32 (fun _ _ => rfl), fun X hX HR1 HR2 => ?_⟩
        have hX' : Ext wr X := Ext.trans ((Below.refl _ _).drew) hX
        have HEX : Ext WB X := Ext.trans HE.out hX'
        have HOX := HO.out.ext hX'
        have hu1 : u13.ownBlock ≠ some b1 := fun h => by have := (HO.out.lt b1 h).2; omega
        have hu2 : u13.ownBlock ≠ some b2 := fun h => by have := (HO.out.lt b2 h).2; omega
        have hWb1 : WB.heap.size ≤ b1 := by have := Below.size HE.out; omega
        have hWb2 : WB.heap.size ≤ b2 := by have := Below.size HE.out; omega
        replace HR2 := hideit HR2
        refine wpList_store_mid rfl 52 (.tmp 18) (.tmp 79) rfl b2 0 (row 16 (yv y2)).toArray rfl rfl (by rw [row_size]; exact HR2.out.there) (by rw [row_size]; exact info32) (row_one fun _ _ => rfl) ?_
        have HBu : But b2 X (X.setCells b2 0 (row 16 (yv y2))) := But.sets _ 0 _ (But.refl _ _)
        have R1 := hideit (RowAt.but HR1 HBu hb12)
        have R2 := hideit (HR2.out.cells (g' := yv y2))
        have HE1 : Hid (Ext WB (X.setCells b2 0 (row 16 (yv y2)))) := hideit (Ext.but HEX HBu hWb2)
        have HO1 := hideit (HOX.but HBu hu2)
        clear HR1 HR2 HBu HEX HOX hX hX' hne HO HE
        generalize X.setCells b2 0 (row 16 (yv y2)) = Y1 at *
        simp only [Act.put]
        have q6 : (n : Int) < (wh : Int) := by omega
        have q7 : n < wh := by omega
        have q9 : (0 : Int) ≤ (n : Int) + 1 := by omega
        have q11 : IntKind.i64.wrap ((n : Int) + 1) = (n : Int) + 1 := by rw [IntKind.wrap_i64]; omega
        go_upto_region 18 with (fail)
        have hD := (Ext.refl Y1).draw
        have R1d := hideit (R1.out.carry hD)
        have R2d := hideit (R2.out.carry hD)
        have HEd := hideit (Ext.trans HE1.out hD)
        have HOd := hideit (HO1.out.ext hD)
        clear R1 R2 HE1 HO1 hD
        refine wp_region_lad (fun X => Ext WB X) [(false, 0), (false, 1), (false, 2), (false, 3), (false, 4), (false, 5), (false, 6), (false, 7), (false, 8), (true, 9), (true, 10)] (by kernel_rfl) (by kernel_rfl) (by decide +kernel) (by decide +kernel) (by decide +kernel) (by decide +kernel) HEd.out ?_
        refine wpX_f _ (.slice (some ⟨tb, 0, none⟩) (wh + 1) tc) rfl rfl (fun X _ => by simp [go_sem]) ?_
        simp only [List.getElem_toArray, List.getElem_cons_zero, Act.put, List.setIfInBounds_toArray, List.set_cons_zero, List.set_cons_succ]
        refine wpX_f _ (.int .i64 (n : Int)) rfl rfl (fun X _ => by simp [go_sem]) ?_
        simp only [zp4, zp5, zp6, zp0, zp1, zp2, zp3]
        refine wpX_f _ (.int .i64 ((n : Int) + 1)) rfl rfl (fun X _ => by simp [go_sem, q11]) ?_
        simp only [zp4, zp5, zp6, zp0, zp1, zp2, zp3]
        refine wpX_f _ (.pointer (some ⟨tb, (n + 1) * 16, none⟩)) rfl rfl (fun X hX => idxE36 rfl rfl (by show Value.int .i64 ((n : Int) + 1) = Value.int .i64 (((n + 1 : Nat)) : Int); rfl) (by omega)) ?_
        simp only [zp4, zp5, zp6, zp0, zp1, zp2, zp3]
        refine wpX_f _ (.agg (row 16 (yv y2)).toArray) rfl rfl (fun X hX => loadE 52 (.tmp 84) tb ((n + 1) * 16) 16 (yv y2) rfl rfl (HTR.out X hX).2 Tryz.underlying52 rfl info32) ?_
        simp only [zp4, zp5, zp6, zp0, zp1, zp2, zp3]
        refine wpX_f _ (.slice (some ⟨tb, 0, none⟩) (wh + 1) tc) rfl rfl (fun X _ => by simp [go_sem]) ?_
        simp only [zp4, zp5, zp6, zp0, zp1, zp2, zp3]
        refine wpX_f _ (.int .i64 (n : Int)) rfl rfl (fun X _ => by simp [go_sem]) ?_
        simp only [zp4, zp5, zp6, zp0, zp1, zp2, zp3]
        refine wpX_f _ (.pointer (some ⟨tb, n * 16, none⟩)) rfl rfl (fun X hX => idxE36 rfl rfl rfl (by omega)) ?_
        simp only [zp4, zp5, zp6, zp0, zp1, zp2, zp3]
        refine wpX_f _ (.agg (row 16 (yv y1)).toArray) rfl rfl (fun X hX => loadE 52 (.tmp 88) tb (n * 16) 16 (yv y1) rfl rfl (HTR.out X hX).1 Tryz.underlying52 rfl info32) ?_
        simp only [zp4, zp5, zp6, zp0, zp1, zp2, zp3]
        have HBb1 : But b1 Y1.drew (Y1.drew.setCells b1 0 (row 16 (yv y2))) := But.sets _ 0 _ (But.refl _ _)
        have R1c := hideit (R1d.out.cells (g' := yv y2))
        have R2c := hideit (RowAt.but R2d.out HBb1 (fun h => hb12 h.symm))
        have HEc := hideit (Ext.but HEd.out HBb1 hWb1)
        have HOc := hideit (HOd.out.but HBb1 hu1)
        refine wpX_st _ (Y1.drew.setCells b1 0 (row 16 (yv y2))) rfl rfl (exec_store0 52 (.tmp 17) (.tmp 85) rfl b1 16 _ (yv y2) rfl rfl R1d.out info32 (fun _ _ => rfl)) (fun X => Ext WB X) (fun X hX => hX) HEc.out ?_
        simp only [List.getElem_toArray, List.getElem_cons_zero, List.getElem_cons_succ, Act.put]
        clear R1d R2d HEd HOd HBb1
        generalize Y1.drew.setCells b1 0 (row 16 (yv y2)) = Yb at *
        have HBb2 : But b2 Yb (Yb.setCells b2 0 (row 16 (yv y1))) := But.sets _ 0 _ (But.refl _ _)
        have R1 := hideit (RowAt.but R1c.out HBb2 hb12)
        have R2 := hideit (R2c.out.cells (g' := yv y1))
        have HE1 := hideit (Ext.but HEc.out HBb2 hWb2)
        have HO1 := hideit (HOc.out.but HBb2 hu2)
        refine wpX_st _ (Yb.setCells b2 0 (row 16 (yv y1))) rfl rfl (exec_store0 52 (.tmp 18) (.tmp 89) rfl b2 16 _ (yv y1) rfl rfl R2c.out info32 (fun _ _ => rfl)) (fun X => Ext WB X) (fun X hX => hX) HE1.out ?_
        simp only [List.getElem_toArray, List.getElem_cons_zero, List.getElem_cons_succ, Act.put]
        clear R1c R2c HEc HOc HBb2
        generalize Yb.setCells b2 0 (row 16 (yv y1)) = Y2 at *
        refine wpX_nil ?_
        go_upto_region 19 with (fail)
        have hD : Ext Y2 Y2.drew := (Ext.refl Y2).draw
        have R1a := hideit (R1.out.carry hD)
        have R2a := hideit (R2.out.carry hD)
        have HOa := hideit (HO1.out.ext hD)
        have HEa := hideit (Ext.trans HE1.out hD)
        clear R1 R2 HO1 HE1 hD HTR
        obtain ⟨F, hF⟩ : ∃ F, F = xD S1 S2 r u D l := ⟨_, rfl⟩
        have hst : Hid (F = stealF ch T2 T1 (fronts ch t0 D) D (16 * n) sh) := hideit (by
          rw [hF, xD_unit]
          unfold unitF
          rw [if_neg hm0.out, ← hnb.out, ← ht0.out, ← hch.out, hw3.out.2.2.2, hT1.out, hT2.out])
        have hF1 : Hid (∀ j, j < 16 * n → fronts ch t0 D j = F j) := hideit (fun j hj => by rw [hst.out]; unfold stealF; rw [if_pos hj])
        have hF2 : Hid (∀ j, j < 16 → G j = F (16 * n + j)) := hideit (fun j hj => by rw [hst.out, hGG.out]; unfold stealF; rw [if_neg (by omega), if_pos (by omega), Nat.add_sub_cancel_left])
        have hF3 : Hid (∀ j, j < sh → L j = F (16 * n + 16 + j)) := hideit (fun j hj => by rw [hst.out, hLL.out]; unfold stealF; rw [if_neg (by omega), if_neg (by omega), Nat.add_sub_cancel_left])
        have hP1 : Hid (∀ j, j < sh → D (16 * n + 16 + j) = PF j) := hideit (fun j hj => by rw [hPF.out]; unfold fillFA; rw [if_pos hj])
        have hP2 : Hid (∀ j, L (sh + j) = PF (sh + j)) := hideit (fun j => by rw [hPF.out]; unfold fillFA; rw [if_neg (by omega)])
        replace hF := hideit hF
        have HOf := hideit (HOa.out.congr (g' := yv F) fun j hj => by simp only [yv]; rw [hF1.out j hj])
        have u1 := cutU a l cap n (by have := hw3.out; omega) hcap (by have := hw3.out; have := hl2; omega)
        have u2 := cutV2 a l cap n sh hw3.out.1 hcap hl2 hw3.out.2.2.1
        have m16 : IntKind.i64.wrap (16 * (n : Int)) = 16 * (n : Int) := by rw [IntKind.wrap_i64]; omega
        have a16 : IntKind.i64.wrap (16 * (n : Int) + 16) = 16 * (n : Int) + 16 := by rw [IntKind.wrap_i64]; omega
        clear HOa hst hF1
        refine wp_region_lad (fun X => Ext Y2.drew X) [(false, 0), (false, 1), (false, 2), (false, 3), (false, 4), (false, 5), (false, 6), (false, 7), (false, 8), (false, 9), (true, 10), (false, 11)] (by kernel_rfl) (by kernel_rfl) (by decide +kernel) (by decide +kernel) (by decide +kernel) (by decide +kernel) (Ext.refl _) ?_
        refine wpX_f _ (.pointer (some ⟨q, 0, none⟩)) rfl rfl (fun X _ => by simp [go_sem]) ?_
        simp only [List.getElem_toArray, List.getElem_cons_zero, Act.put, List.setIfInBounds_toArray, List.set_cons_zero, List.set_cons_succ]
        refine wpX_f _ (.slice (some a) l cap) rfl rfl (fun X _ => by simp [go_sem]) ?_
        simp only [zp4, zp5, zp6, zp0, zp1, zp2, zp3]
        refine wpX_f _ (.int .i64 (n : Int)) rfl rfl (fun X _ => by simp [go_sem]) ?_
        simp only [zp4, zp5, zp6, zp0, zp1, zp2, zp3]
        refine wpX_f _ (.int .i64 (16 * (n : Int))) rfl rfl (fun X _ => by simp [go_sem, m16]) ?_
        simp only [zp4, zp5, zp6, zp0, zp1, zp2, zp3]
        refine wpX_f _ (.int .i64 (n : Int)) rfl rfl (fun X _ => by simp [go_sem]) ?_
        simp only [zp4, zp5, zp6, zp0, zp1, zp2, zp3]
        refine wpX_f _ (.int .i64 (16 * (n : Int))) rfl rfl (fun X _ => by simp [go_sem, m16]) ?_
        simp only [zp4, zp5, zp6, zp0, zp1, zp2, zp3]
        refine wpX_f _ (.int .i64 (16 * (n : Int) + 16)) rfl rfl (fun X _ => by simp [go_sem, a16]) ?_
        simp only [zp4, zp5, zp6, zp0, zp1, zp2, zp3]
        refine wpX_f _ (.slice (some (a.add (16 * n))) 16 (cap - 16 * n)) rfl rfl (fun X hX => by simp [go_sem, u1]) ?_
        simp only [zp4, zp5, zp6, zp0, zp1, zp2, zp3]
        refine wpX_f _ (.agg (row 16 (yv y2)).toArray) rfl rfl (fun X hX => loadE 52 (.tmp 17) b1 0 16 (yv y2) rfl rfl (R1a.out.carry hX).range Tryz.underlying52 rfl info32) ?_
        simp only [zp4, zp5, zp6, zp0, zp1, zp2, zp3]
        refine wpX_f _ (.bool true) rfl rfl (fun X _ => by simp [go_sem]) ?_
        simp only [zp4, zp5, zp6, zp0, zp1, zp2, zp3]
        refine wpX_call _ rfl rfl (by simp [go_sem]) ((hat1.out Y2.drew HEa.out).mono ?_)
        rintro e Yb ⟨cv, rfl, hOc, hXb⟩
        obtain ⟨cb, cc, rfl, hcc, _, LC, hcb⟩ := lies_own hOc (by decide)
        refine ⟨_, rfl, fun X => Ext Yb X, fun X hX => Ext.trans hXb hX, Ext.refl _, ?_⟩
        simp only [zp4, zp5, zp6, zp0, zp1, zp2, zp3]
        refine wpX_f _ (.slice (some ⟨cb, 0, none⟩) 16 cc) rfl rfl (fun X _ => by simp [go_sem]) ?_
        simp only [zp4, zp5, zp6, zp0, zp1, zp2, zp3]
        refine wpX_nil ?_
        have hcu : Hid (∀ k, u13.ownBlock = some k → k ≠ cb) := hideit (fun k hk => by have := (HOf.out.lt k hk).2; omega)
        have R2b := hideit (R2a.out.carry hXb)
        have HOb := hideit (HOf.out.ext hXb)
        have HEb := hideit (Ext.trans HEa.out hXb)
        replace LC := hideit LC
        replace hcc := hideit hcc
        clear R1a R2a HOf HEa hXb hOc hcb hat1
        go_upto_region 20 with (fail)
        have hD : Ext Yb Yb.drew := (Ext.refl Yb).draw
        have O0 := own_empty Yb.drew Yb.drew.heap.size 5 (yv PF) (Nat.le_refl _)
        have hX0 : Ext Yb.drew (Yb.drew.alloc (.cells #[] 5)) := (Below.refl _ _).alloc (Nat.le_refl _) _
        obtain ⟨v6, Yd, hr6, O6, hg6⟩ := run_growF 22 O0 (a.add (16 * n + 16)) sh (cap - (16 * n + 16)) (yv fun i => D (16 * n + 16 + i)) (yv PF) (HSA.out _ (Ext.trans (Ext.trans HEb.out hD) hX0)) (fun _ _ => rfl) (fun j hj => absurd hj (by omega)) (fun j hj => by simp only [yv]; rw [hP1.out j hj, Nat.zero_add]) (by omega) (Below.size hX0)
        have hX6 : Ext Yb.drew Yd := gr_ext hX0 hg6 (fun k h => (O0.lt k h).1)
        have LC6 := (LC.out.carry hD).carry hX6
        have LL6 : LieAt ⟨cb, sh, none⟩ (16 - sh) (yv fun i => L (sh + i)) Yd := ⟨fun j hj => by rw [add_none, LC6.1 (sh + j) (by omega)]; rfl, LC6.2.2⟩
        obtain ⟨v10, Ye, hr10, O10, hg10⟩ := run_growF 22 O6 ⟨cb, sh, none⟩ (16 - sh) (cc - sh) (yv fun i => L (sh + i)) (yv PF) LL6 (fun _ _ => rfl) (fun _ _ => rfl) (fun j hj => by simp only [yv]; rw [hP2.out j, Nat.zero_add]) (by omega) (Below.size hX6)
        have hX10 : Ext Yb.drew Ye := gr_ext hX6 hg10 (fun k h => (O6.lt k h).1)
        have u3 := cutC cb cc sh hcc.out hw3.out.2.1 hw3.out.2.2.1
        have u4 := cutD cb cc sh hcc.out hw3.out.2.1
        refine wp_region_lad (fun _ => True) [(false, 1), (false, 2), (false, 3), (false, 4), (false, 5), (false, 7), (false, 8), (false, 9), (true, 0), (true, 6), (true, 10), (false, 11)] (by kernel_rfl) (by kernel_rfl) (by decide +kernel) (by decide +kernel) (by decide +kernel) (by decide +kernel) trivial ?_
        refine wpX_f _ (.slice (some a) l cap) rfl rfl (fun X _ => by simp [go_sem]) ?_
        simp only [zp4, zp5, zp6, zp0, zp1, zp2, zp3]
        refine wpX_f _ (.int .i64 (n : Int)) rfl rfl (fun X _ => by simp [go_sem]) ?_
        simp only [zp4, zp5, zp6, zp0, zp1, zp2, zp3]
        refine wpX_f _ (.int .i64 (16 * (n : Int))) rfl rfl (fun X _ => by simp [go_sem, m16]) ?_
        simp only [zp4, zp5, zp6, zp0, zp1, zp2, zp3]
        refine wpX_f _ (.int .i64 (16 * (n : Int) + 16)) rfl rfl (fun X _ => by simp [go_sem, a16]) ?_
        simp only [zp4, zp5, zp6, zp0, zp1, zp2, zp3]
        refine wpX_f _ (.slice (some (a.add (16 * n + 16))) sh (cap - (16 * n + 16))) rfl rfl (fun X hX => by simp [go_sem, u2]) ?_
        simp only [zp4, zp5, zp6, zp0, zp1, zp2, zp3]
        refine wpX_f _ (.slice (some ⟨cb, 0, none⟩) 16 cc) rfl rfl (fun X _ => by simp [go_sem]) ?_
        simp only [zp4, zp5, zp6, zp0, zp1, zp2, zp3]
        refine wpX_f _ (.int .i64 (sh : Int)) rfl rfl (fun X _ => by simp [go_sem]) ?_
        simp only [zp4, zp5, zp6, zp0, zp1, zp2, zp3]
        refine wpX_f _ (.slice (some ⟨cb, sh, none⟩) (16 - sh) (cc - sh)) rfl rfl (fun X hX => by simp [go_sem, u3]) ?_
        simp only [zp4, zp5, zp6, zp0, zp1, zp2, zp3]
        refine wpX_to _ (.slice (some ⟨Yb.drew.heap.size, 0, none⟩) 0 0) (Yb.drew.alloc (.cells #[] 5)) rfl rfl (by simp [go_sem]) (fun _ => True) (fun _ h => h) trivial ?_
        simp only [List.getElem_toArray, List.getElem_cons_zero, Act.put, List.setIfInBounds_toArray, List.set_cons_zero, List.set_cons_succ]
        refine wpX_to _ v6 Yd rfl rfl (exec_appendX (.tmp 101) (.tmp 106) 25 25 rfl _ _ _ rfl rfl hr6) (fun _ => True) (fun _ h => h) trivial ?_
        simp only [zp4, zp5, zp6, zp0, zp1, zp2, zp3]
        refine wpX_to _ v10 Ye rfl rfl (exec_appendX (.tmp 107) (.tmp 110) 25 25 rfl _ _ _ rfl rfl hr10) (fun _ => True) (fun _ h => h) trivial ?_
        simp only [zp4, zp5, zp6, zp0, zp1, zp2, zp3]
        obtain ⟨lb, lc, rfl, hlc, LP, _, _⟩ := lies_own O10 (by omega)
        rw [show 0 + sh + (16 - sh) = 16 by omega] at LP ⊢
        refine wpX_f _ (.slice (some ⟨lb, 0, none⟩) 16 lc) rfl rfl (fun X _ => by simp [go_sem]) ?_
        simp only [zp4, zp5, zp6, zp0, zp1, zp2, zp3]
        refine wpX_nil ?_
        have hXe := Ext.trans hD hX10
        have R2e := hideit (R2b.out.carry hXe)
        have HOe := hideit (HOb.out.ext hXe)
        have HEe := hideit (Ext.trans HEb.out hXe)
        have LCe := hideit (LC.out.carry hXe)
        have k2 := hideit (hat2.out Ye HEe.out lb lc LP)
        clear R2b HOb HEb LC hXe hX10 hg10 O10 hr10 LL6 LC6 hX6 hg6 O6 hr6 hX0 O0 hD hlc LP hat2 HSA
        go_upto_region 21 with (fail)
        refine wp_region_lit ?_
        refine wpList_run rfl (u13) (by simp [go_sem]) ?_
        simp only [zp0, zp1, zp2, zp3]
        refine wpList_run rfl (.pointer (some ⟨q, 0, none⟩)) (by simp [go_sem]) ?_
        simp only [zp0, zp1, zp2, zp3]
        refine wpList_run rfl (.slice (some ⟨lb, 0, none⟩) 16 lc) (by simp [go_sem]) ?_
        simp only [zp0, zp1, zp2, zp3]
        refine wpList_run rfl (.agg (row 16 (yv y1)).toArray) (loadE 52 (.tmp 18) b2 0 16 (yv y1) rfl rfl R2e.out.range Tryz.underlying52 rfl info32) ?_
        simp only [zp0, zp1, zp2, zp3]
        refine wpList_run rfl (.bool true) (by simp [go_sem]) ?_
        simp only [zp0, zp1, zp2, zp3]
        refine wpList_call rfl (by simp [go_sem]; exact ⟨rfl, rfl⟩) ?_
        refine (k2.out).mono ?_
        rintro e Yf ⟨ov, rfl, hOo, hXf⟩
        refine ⟨_, rfl, ?_⟩
        simp only [zp0, zp1, zp2, zp3]
        have HOg := HOe.out.ext hXf
        have HEg := Ext.trans HEe.out hXf
        have LCg := LCe.out.carry hXf
        refine wpList_growV (n := 16 * n) elem22A rfl (.tmp 112) (.tmp 117) rfl rfl HOg ov 16 G (yv F) rfl hOo.bv (fun _ _ => rfl) (fun j hj => by simp only [yv]; rw [hF2.out j hj]) (by omega) (Below.size HEg) ?_
        intro v13 Yh ho hg
        have HEh := hideit (gr_ext HEg hg (fun k h => (HOg.lt k h).1))
        have LCh := hideit (LCg.grown hg (fun h => hcu.out cb h.symm rfl))
        replace ho := hideit ho
        clear HOg HEg LCg hg hOo hXf R2e HOe HEe LCe k2
        simp only [zp0, zp1, zp2, zp3]
        go_upto_region 22 with (fail)
        refine wp_region_lit ?_
        refine wpList_run rfl (v13) (by simp [go_sem]) ?_
        simp only [zp0, zp1, zp2, zp3]
        refine wpList_run rfl (.slice (some ⟨cb, 0, none⟩) 16 cc) (by simp [go_sem]) ?_
        simp only [zp0, zp1, zp2, zp3]
        refine wpList_run rfl (.int .i64 (sh : Int)) (by simp [go_sem]) ?_
        simp only [zp0, zp1, zp2, zp3]
        refine wpList_run rfl (.slice (some ⟨cb, 0, none⟩) sh cc) (by simp [go_sem, u4]) ?_
        simp only [zp0, zp1, zp2, zp3]
        refine wpList_growV (n := 16 * n + 16) elem22A rfl (.tmp 119) (.tmp 122) rfl rfl ho.out (.slice (some ⟨cb, 0, none⟩) sh cc) sh L (yv F) rfl (.inr ⟨_, cc, rfl, by have := hcc.out; have := hw3.out; omega, fun j hj => (lie_of_row LCh.out).1 j (by have := hw3.out; omega), LCh.out.2.2⟩) (fun _ _ => rfl) (fun j hj => by simp only [yv]; rw [hF3.out j hj]) (by have := hw3.out; have := hl2; omega) (Below.size HEh.out) ?_
        intro v8 Yi hoi hgi
        have HEi := hideit (gr_ext HEh.out hgi (fun k h => (ho.out.lt k h).1))
        have HOF : Hid (OwnB w.heap.size 5 v8 l (yv (xD S1 S2 r u D l)) Yi) := hideit (by
          rw [← hF.out]
          rw [← hw3.out.1] at hoi
          exact ⟨hoi.1, hoi.2.imp id fun ⟨g, cp, cur, k1, k2, k3⟩ => ⟨g, cp, cur, k1, by have := Below.size HEB.out; omega, k3⟩⟩)
        have HBF := hideit (Ext.trans HEB.out HEi.out)
        clear ho hgi hoi HEh LCh HEi hF2 hF3 hP1 hP2 u1 u2 u3 u4
        simp only [zp0, zp1, zp2, zp3]
        go_wp2
        refine bodyPost_ret (results_tmp2 Tryz.results42 _ _ _) rfl ?_
        exact ⟨v8, rfl, HOF.out, HBF.out⟩
end Go.Proofs.YtfpfgbhdehbggaaGreatDoor
namespace Go.Proofs.YtfpfgbhdehbggaaGreatDoor
open Go.RowKit Go.BigFrame
set_option linter.unusedVariables false
set_option maxRecDepth 20000
set_option maxRecDepth 20000 in
set_option maxHeartbeats 4000000 in
theorem rdec512 (base0 q k : Nat) (S1 S2 : Nat → BitVec 8) (u : BitVec 64) (a : Addr) (D : Nat → BitVec 8) (w : World) (hP : RPairAt base0 q 10 S1 S2 w) (hk : 512 ≤ k) (hD : LieAt a 512 (yv D) w) : Calls Tryz.prog 26 #[.pointer (some ⟨q, 0, none⟩), .int .u64 (u.toNat : Int), .slice (some a) 512 k] w fun e' w' => ∃ v, e' = .returned (.tuple #[v, .int .i64 0]) ∧ OwnB w.heap.size 5 v 512 (yv (xD S1 S2 10 u D 512)) w' ∧ Ext w w' := by
  have hE := hideit (Ext.refl w)
  go_enter Tryz.func26, Tryz.ntmps26
  go_upto_region 0 with (fail)
  refine wp_region_lit ?_
  refine xm [some (.slice none 0 0), some (.int .i64 0)] (by kernel_rfl) (by simp [xr, go_sem]) ?_
  simp only [xw, p0, p1, p2, p3]
  go_upto_region 1 with (fail)
  refine wp_region_lit ?_
  refine xm [some (.pointer (some ⟨q, 0, none⟩)), some (.int .u64 (u.toNat : Int)), some (.slice (some a) 512 k)] (by kernel_rfl) (by simp [xr, go_sem]) ?_
  simp only [xw, p0, p1, p2, p3]
  have hb1 := hideit (Below.size hE.out)
  refine wpList_call rfl (by simp [go_sem]) ((runitD_any base0 q 10 512 k S1 S2 (by decide) (by decide) u a D w (hP.ext hE.out) (by decide) (by decide) hk (hD.carry hE.out)).mono ?_)
  rintro e y1 ⟨v1, rfl, hO, hX1⟩
  refine ⟨_, rfl, ?_⟩
  simp only [zp0, zp1, zp2, zp3]
  replace hE := hideit (Ext.trans hE.out (hX1))
  clear hX1
  refine xm [some (v1), some (.int .i64 0), some (v1), some (.int .i64 0)] (by kernel_rfl) (by simp [xr, go_sem]) ?_
  simp only [xw, p0, p1, p2, p3]
  go_wp2
  refine bodyPost_ret (res2 rfl _ _ _) rfl ?_
  exact ⟨_, rfl, hO.down hb1.out, hE.out⟩
set_option maxRecDepth 20000 in
set_option maxHeartbeats 4000000 in
theorem ropen_b (e n : Int) (D T R : Nat → BitVec 8) (o : Option Addr) (l k : Nat) (w : World) (h : ¬ okK e n) : Calls Tryz.prog 10 #[.agg (row 65 (ekI e D T)).toArray, .int .i64 n, .slice o l k, .agg (row 64 (yv R)).toArray] w fun e' w' => e' = .returned (.tuple #[.slice none 0 0, .int .i64 1]) ∧ Ext w w' := by
  have hrt : ∀ X, Calls Tryz.prog 17 #[.agg (row 65 (ekI e D T)).toArray, .int .i64 n] X fun e' w' => e' = .returned (.bool false) ∧ Ext X w' := fun X => by have q := sright_any e n D T X; rw [decide_eq_false h] at q; exact q
  clear h
  have hE := hideit (Ext.refl w)
  go_enter Tryz.func10, Tryz.ntmps10
  go_upto_region 0 with (fail)
  refine wp_region_lit ?_
  have A0 := hideit (RowAt.new w 65 (ekI e D T) 24)
  have XB : Ext w (w.alloc (.cells (row 65 (ekI e D T)).toArray 24)) := (Below.refl _ _).alloc (Nat.le_refl _) _
  have AE := hideit (Ext.trans hE.out (XB))
  have AB := hideit (hE.out.size)
  clear XB
  refine wpList_to rfl (.pointer (some ⟨w.heap.size, 0, none⟩)) (w.alloc (.cells (row 65 (ekI e D T)).toArray 24)) (by simp [go_sem]) ?_
  simp only [zp0, zp1, zp2, zp3]
  generalize w.alloc (.cells (row 65 (ekI e D T)).toArray 24) = x1 at A0 AE ⊢
  obtain ⟨c4, ec4⟩ : ∃ b, b = w.heap.size := ⟨_, rfl⟩
  have ABc4 : Hid (w.heap.size ≤ c4) := by rw [ec4]; exact AB.out
  clear AB
  rw [← ec4] at A0  ⊢
  clear ec4
  have Hc4 := A0
  clear A0
  replace hE := AE
  clear AE
  have A0 := hideit (RowAt.new x1 64 (yv R) 26)
  have XB : Ext x1 (x1.alloc (.cells (row 64 (yv R)).toArray 26)) := (Below.refl _ _).alloc (Nat.le_refl _) _
  have A1 := hideit (Hc4.out.carry XB)
  have AE := hideit (Ext.trans hE.out (XB))
  have AB := hideit (hE.out.size)
  have D0 : Hid (c4 ≠ x1.heap.size) := Nat.ne_of_lt Hc4.out.2.2
  clear XB
  refine wpList_to rfl (.pointer (some ⟨x1.heap.size, 0, none⟩)) (x1.alloc (.cells (row 64 (yv R)).toArray 26)) (by simp [go_sem]) ?_
  simp only [zp0, zp1, zp2, zp3]
  generalize x1.alloc (.cells (row 64 (yv R)).toArray 26) = x2 at A0 A1 AE ⊢
  obtain ⟨c7, ec7⟩ : ∃ b, b = x1.heap.size := ⟨_, rfl⟩
  have ABc7 : Hid (w.heap.size ≤ c7) := by rw [ec7]; exact AB.out
  clear AB
  rw [← ec7] at A0 D0 ⊢
  clear ec7
  have Hc7 := A0
  clear A0
  replace Hc4 := A1
  clear A1
  replace hE := AE
  clear AE
  have Dc7_0 := D0
  clear D0
  refine xm [some (.slice none 0 0), some (.int .i64 0)] (by kernel_rfl) (by simp [xr, go_sem]) ?_
  simp only [xw, p0, p1, p2, p3]
  go_upto_region 1 with (fail)
  refine wp_region_lit ?_
  refine wpList_run rfl (.agg (row 65 (ekI e D T)).toArray) (xload 24 (.tmp 4) rfl c4 0 65 _ rfl Hc4.out.range Tryz.underlying24 rfl inf50) ?_
  simp only [zp0, zp1, zp2, zp3]
  refine xm [some (.int .i64 (n))] (by kernel_rfl) (by simp [xr, go_sem]) ?_
  simp only [xw, p0, p1, p2, p3]
  refine wpList_call rfl (by simp [go_sem]) ((hrt x2).mono ?_)
  rintro e y3 ⟨rfl, hX4⟩
  refine ⟨_, rfl, ?_⟩
  simp only [zp0, zp1, zp2, zp3]
  replace Hc4 := hideit (Hc4.out.carry hX4)
  replace Hc7 := hideit (Hc7.out.carry hX4)
  replace hE := hideit (Ext.trans hE.out (hX4))
  clear hX4
  refine xm [some (.bool true)] (by kernel_rfl) (by simp [xr, go_sem]) ?_
  simp only [xw, p0, p1, p2, p3]
  go_upto_region 2 with (fail)
  refine wp_region_lit ?_
  refine xm [some (.slice none 0 0), some (.int .i64 1)] (by kernel_rfl) (by simp [xr, go_sem]) ?_
  simp only [xw, p0, p1, p2, p3]
  go_wp2
  refine bodyPost_ret (res2 rfl _ _ _) rfl ?_
  exact ⟨rfl, hE.out⟩
set_option maxRecDepth 20000 in
set_option maxHeartbeats 4000000 in
theorem ropen_l (e n : Int) (D T R : Nat → BitVec 8) (o : Option Addr) (l k : Nat) (w : World) (h : okK e n) (hl : ¬ (l : Int) = 512) : Calls Tryz.prog 10 #[.agg (row 65 (ekI e D T)).toArray, .int .i64 n, .slice o l k, .agg (row 64 (yv R)).toArray] w fun e' w' => e' = .returned (.tuple #[.slice none 0 0, .int .i64 101]) ∧ Ext w w' := by
  have hrt : ∀ X, Calls Tryz.prog 17 #[.agg (row 65 (ekI e D T)).toArray, .int .i64 n] X fun e' w' => e' = .returned (.bool true) ∧ Ext X w' := fun X => by have q := sright_any e n D T X; rw [decide_eq_true h] at q; exact q
  clear h
  have hE := hideit (Ext.refl w)
  go_enter Tryz.func10, Tryz.ntmps10
  go_upto_region 0 with (fail)
  refine wp_region_lit ?_
  have A0 := hideit (RowAt.new w 65 (ekI e D T) 24)
  have XB : Ext w (w.alloc (.cells (row 65 (ekI e D T)).toArray 24)) := (Below.refl _ _).alloc (Nat.le_refl _) _
  have AE := hideit (Ext.trans hE.out (XB))
  have AB := hideit (hE.out.size)
  clear XB
  refine wpList_to rfl (.pointer (some ⟨w.heap.size, 0, none⟩)) (w.alloc (.cells (row 65 (ekI e D T)).toArray 24)) (by simp [go_sem]) ?_
  simp only [zp0, zp1, zp2, zp3]
  generalize w.alloc (.cells (row 65 (ekI e D T)).toArray 24) = x1 at A0 AE ⊢
  obtain ⟨c4, ec4⟩ : ∃ b, b = w.heap.size := ⟨_, rfl⟩
  have ABc4 : Hid (w.heap.size ≤ c4) := by rw [ec4]; exact AB.out
  clear AB
  rw [← ec4] at A0  ⊢
  clear ec4
  have Hc4 := A0
  clear A0
  replace hE := AE
  clear AE
  have A0 := hideit (RowAt.new x1 64 (yv R) 26)
  have XB : Ext x1 (x1.alloc (.cells (row 64 (yv R)).toArray 26)) := (Below.refl _ _).alloc (Nat.le_refl _) _
  have A1 := hideit (Hc4.out.carry XB)
  have AE := hideit (Ext.trans hE.out (XB))
  have AB := hideit (hE.out.size)
  have D0 : Hid (c4 ≠ x1.heap.size) := Nat.ne_of_lt Hc4.out.2.2
  clear XB
  refine wpList_to rfl (.pointer (some ⟨x1.heap.size, 0, none⟩)) (x1.alloc (.cells (row 64 (yv R)).toArray 26)) (by simp [go_sem]) ?_
  simp only [zp0, zp1, zp2, zp3]
  generalize x1.alloc (.cells (row 64 (yv R)).toArray 26) = x2 at A0 A1 AE ⊢
  obtain ⟨c7, ec7⟩ : ∃ b, b = x1.heap.size := ⟨_, rfl⟩
  have ABc7 : Hid (w.heap.size ≤ c7) := by rw [ec7]; exact AB.out
  clear AB
  rw [← ec7] at A0 D0 ⊢
  clear ec7
  have Hc7 := A0
  clear A0
  replace Hc4 := A1
  clear A1
  replace hE := AE
  clear AE
  have Dc7_0 := D0
  clear D0
  refine xm [some (.slice none 0 0), some (.int .i64 0)] (by kernel_rfl) (by simp [xr, go_sem]) ?_
  simp only [xw, p0, p1, p2, p3]
  go_upto_region 1 with (fail)
  refine wp_region_lit ?_
  refine wpList_run rfl (.agg (row 65 (ekI e D T)).toArray) (xload 24 (.tmp 4) rfl c4 0 65 _ rfl Hc4.out.range Tryz.underlying24 rfl inf50) ?_
  simp only [zp0, zp1, zp2, zp3]
  refine xm [some (.int .i64 (n))] (by kernel_rfl) (by simp [xr, go_sem]) ?_
  simp only [xw, p0, p1, p2, p3]
  refine wpList_call rfl (by simp [go_sem]) ((hrt x2).mono ?_)
  rintro e y3 ⟨rfl, hX4⟩
  refine ⟨_, rfl, ?_⟩
  simp only [zp0, zp1, zp2, zp3]
  replace Hc4 := hideit (Hc4.out.carry hX4)
  replace Hc7 := hideit (Hc7.out.carry hX4)
  replace hE := hideit (Ext.trans hE.out (hX4))
  clear hX4
  refine xm [some (.bool false)] (by kernel_rfl) (by simp [xr, go_sem]) ?_
  simp only [xw, p0, p1, p2, p3]
  go_upto_region 3 with (fail)
  refine wp_region_lit ?_
  refine xm [some (.slice o l k), some (.int .i64 (l : Int)), some (.bool true)] (by kernel_rfl) (by simp [xr, go_sem, hl]) ?_
  simp only [xw, p0, p1, p2, p3]
  go_upto_region 4 with (fail)
  refine wp_region_lit ?_
  refine xm [some (.slice none 0 0), some (.int .i64 101)] (by kernel_rfl) (by simp [xr, go_sem]) ?_
  simp only [xw, p0, p1, p2, p3]
  go_wp2
  refine bodyPost_ret (res2 rfl _ _ _) rfl ?_
  exact ⟨rfl, hE.out⟩
theorem ropen_bad (e n : Int) (D T R : Nat → BitVec 8) (o : Option Addr) (l k : Nat) (w : World) (h : ¬ sC e n l = 0) : Calls Tryz.prog 10 #[.agg (row 65 (ekI e D T)).toArray, .int .i64 n, .slice o l k, .agg (row 64 (yv R)).toArray] w fun e' w' => e' = .returned (.tuple #[.slice none 0 0, .int .i64 (sC e n l)]) ∧ Ext w w' := by
  by_cases h1 : okK e n
  · have h5 : ¬ l = 512 := fun q => h (sC_0 h1 q)
    rw [sC_101 h1 h5]
    exact ropen_l e n D T R o l k w h1 (by omega)
  · rw [sC_1 (l := l) h1]
    exact ropen_b e n D T R o l k w h1
end Go.Proofs.YtfpfgbhdehbggaaGreatDoor
