/-
  A number in a message; why there is no record; where it is. A record of a block of tags.
-/
import Derived.Test.YtgjabfjkokpkiaaDoorQ1
import Derived.Test.YtgjabfjkokpkiaaDoorQ21
import Derived.Test.YtgjabfjkokpkiaaDoorQ24
import Derived.Test.YtgjabfjkokpkiaaDoorQ17
import Derived.Test.YtgjabfjkokpkiaaDoorQ39
import Derived.Test.YtgjabfjkokpkiaaDoorQ10
namespace Go.Proofs.YtgjabfjkokpkiaaDoor
open Go.RowKit Go.BigFrame
set_option linter.unusedVariables false
set_option maxRecDepth 20000
def n4 (x : Nat) : BitVec 64 := BitVec.ofNat 64 x
def numB (x : Nat) (j : Nat) : BitVec 8 := byB (n4 x) j
theorem n4_nat {x : Nat} (h : x < 4294967296) : (n4 x).toNat = x := by unfold n4; rw [BitVec.toNat_ofNat]; omega
set_option maxRecDepth 20000 in
set_option maxHeartbeats 4000000 in
theorem num_any (x : Nat) (hx : x < 4294967296) (w : World) : Calls Tryd.prog 28 #[.int .i64 (x : Int)] w fun e w' => ∃ g, e = .returned (.slice (some ⟨g, 0, none⟩) 4 4) ∧ w.heap.size ≤ g ∧ RowAt g 4 (yv (numB x)) w' ∧ Ext w w' := by
  have hcv : IntKind.u64.wrap (x : Int) = ((n4 x).toNat : Int) := by rw [n4_nat hx, IntKind.wrap_u64]; omega
  replace hx := hideit hx
  have hE := hideit (Ext.refl w)
  go_enter Tryd.func28, Tryd.ntmps28
  go_upto_region 0 with (fail)
  refine wp_region_lit ?_
  refine xm [some (.slice none 0 0)] (by kernel_rfl) (by simp [xr, go_sem]) ?_
  simp only [xw, p0, p1, p2, p3]
  go_upto_region 1 with (fail)
  refine wp_region_lit ?_
  obtain ⟨c, hc⟩ : ∃ c, c = w.heap.size := ⟨_, rfl⟩
  have kN := neww_any 4 (fun _ => 0#8) w (by decide)
  rw [← hc] at kN
  refine wpList_call rfl (by simp [go_sem]) ((kN).mono ?_)
  rintro e y1 ⟨rfl, hW1, hX1⟩
  refine ⟨_, rfl, ?_⟩
  simp only [zp0, zp1, zp2, zp3]
  replace hE := hideit (Ext.trans hE.out (hX1))
  replace hW1 := hideit hW1
  clear hX1 kN
  refine xm [some (.pointer (some ⟨c, 0, none⟩))] (by kernel_rfl) (by simp [xr, go_sem]) ?_
  simp only [xw, p0, p1, p2, p3]
  replace hc := hideit hc
  go_upto_region 2 with (fail)
  refine wp_region_lit ?_
  refine xm [some (.pointer (some ⟨c, 0, none⟩)), some (.int .i64 (x : Int))] (by kernel_rfl) (by simp [xr, go_sem]) ?_
  simp only [xw, p0, p1, p2, p3]
  refine xm [some (.int .u64 ((n4 x).toNat : Int))] (by kernel_rfl) (by simp [xr, go_sem, hcv]) ?_
  simp only [xw, p0, p1, p2, p3]
  refine wpList_call rfl (by simp [go_sem]) ((wuint_ok c 4 0 4 (fun _ => 0#8) false (n4 x) y1 hW1.out (by decide) (by decide) (by decide) (by decide) (by rw [n4_nat hx.out]; have := hx.out; omega)).mono ?_)
  rintro e y2 ⟨rfl, hW2, hB2⟩
  refine ⟨_, rfl, ?_⟩
  simp only [zp0, zp1, zp2, zp3]
  have hE2 : Hid (Ext w y2) := Below.trans hE.out (by rw [← hc.out]; exact hB2)
  replace hW2 := hideit hW2
  clear hB2 hE hW1
  go_upto_region 3 with (fail)
  refine wp_region_lit ?_
  refine xm [some (.pointer (some ⟨c, 0, none⟩))] (by kernel_rfl) (by simp [xr, go_sem]) ?_
  simp only [xw, p0, p1, p2, p3]
  refine wpList_call rfl (by simp [go_sem]) ((wdone_ok c 4 4 (catF (fun _ => 0#8) 0 (byB (n4 x))) y2 hW2.out (by decide) (by decide)).mono ?_)
  rintro e y3 ⟨g, rfl, hg, hR, hX3⟩
  refine ⟨_, rfl, ?_⟩
  simp only [zp0, zp1, zp2, zp3]
  have hgs := Nat.le_trans (Below.size hE2.out) hg
  have hE3 : Hid (Ext w y3) := Ext.trans hE2.out hX3
  replace hR := hideit hR
  clear hX3 hE2 hW2
  refine xm [some (.tuple #[.slice (some ⟨g, 0, none⟩) 4 4, .int .i64 0]), some (.slice (some ⟨g, 0, none⟩) 4 4), some (.int .i64 0), some (.slice (some ⟨g, 0, none⟩) 4 4), some (.int .i64 0)] (by kernel_rfl) (by simp [xr, go_sem]) ?_
  simp only [xw, p0, p1, p2, p3]
  go_upto_region 4 with (fail)
  refine wp_region_lit ?_
  refine xm [some (.slice (some ⟨g, 0, none⟩) 4 4), some (.slice (some ⟨g, 0, none⟩) 4 4)] (by kernel_rfl) (by simp [xr, go_sem]) ?_
  simp only [xw, p0, p1, p2, p3]
  go_wp2
  go_ret
  refine ⟨g, rfl, hgs, hR.out.congr fun j hj => ?_, hE3.out⟩
  unfold yv padF catF numB
  rw [if_pos hj, if_neg (by omega), Nat.sub_zero]
set_option maxRecDepth 20000 in
set_option maxHeartbeats 4000000 in
theorem flag_any (b : Bool) (w : World) : Calls Tryd.prog 47 #[.bool b] w fun e w' => e = .returned (.int .u64 (if b then 1 else 0)) ∧ w' = w := by
  cases b
  · go_enter Tryd.func47, Tryd.ntmps47
    go_wp2
    go_ret
    exact ⟨rfl, rfl⟩
  · go_enter Tryd.func47, Tryd.ntmps47
    go_wp2
    go_ret
    exact ⟨rfl, rfl⟩
end Go.Proofs.YtgjabfjkokpkiaaDoor
namespace Go.Proofs.YtgjabfjkokpkiaaDoor
open Go.RowKit Go.BigFrame
set_option linter.unusedVariables false
set_option maxRecDepth 20000
theorem ret_row2 {P : Program} {F : Func} {tmps : Array Value} {k k2 : Nat} {t : TypeId} {b n : Nat} {g : Nat → Value} {X : World} {d : TypeDesc} (hF : F.results = #[.cell k t, .tmp k2]) (ht : tmps.getD k undef = .pointer (some ⟨b, 0, none⟩)) (h : RowAt b n g X)
    (hu : P.underlying t = some d) (hd : d.isRow = true) (hi : (P.info? t).map (·.size) = some n) : Sem.run P (results F tmps) X = .ok (.tuple #[.agg (row n g).toArray, tmps.getD k2 undef]) X := by
  have hl := run_loadVar_mid (P := P) X b 0 t (row n g) d h.range hu hd (by rw [row_length]; exact hi)
  unfold results
  rw [hF]
  simp only [List.mapM_toArray, List.mapM_cons, List.mapM_nil, ht]
  simp [asAddr, hl]
theorem exec_copy {P : Program} {w : World} {o : Oper} {a : Act} (d s : Operand) (dT sT : TypeId)
    (ho : o.op = .call { callee := .builtin .copy, args := #[d, s], argTypes := #[dT, sT] }) (elem : TypeId) (hu : P.underlying dT = some (.slice elem)) (hsz : (P.info? elem).map (·.size) = some 1)
    (b n : Nat) (g : Nat → Value) (hR : RowAt b n g w) (off dLen dCap : Nat) (ad : Addr) (sLen sCap : Nat) (hd : a.eval d = .slice (some ⟨b, off, none⟩) dLen dCap) (hs : a.eval s = .slice (some ad) sLen sCap)
    (m : Nat) (u : Nat → Value) (hn : m = Nat.min sLen dLen) (hsrc : ∀ j, j < m → w.cell? (ad.add j) = some (u j)) (hfit : off + m ≤ n) (h1 : ∀ j, j < m → (u j).oneCell' = true) : (execOp a.eval o).run P w = .ok (.value (goInt m)) (w.setCells b off (row m u)) := by
  have hrun := run_copy_cells (P := P) w dT sT o.type elem b off dLen dCap ad sLen sCap (row m u) hu hsz (by rw [row_length]; exact hn) (fun j v hv => by obtain ⟨hj, rfl⟩ := row_some hv; exact hsrc j hj)
    (fun j hj => by rw [row_length] at hj; rw [hR.1 (off + j) (by omega)]; rfl) (fun j hj => by rw [row_length] at hj; exact hR.2.1 (off + j) (by omega)) (fun v hv => by
      obtain ⟨j, hj, rfl⟩ := List.mem_map.1 hv
      exact h1 j (by simpa using hj))
  rw [row_length] at hrun
  simp [execOp, ho, resolve, invoke, builtin, hd, hs, hrun, Result.andThen]
set_option maxRecDepth 20000 in
set_option maxHeartbeats 2000000 in
theorem inf23 : (Tryd.prog.info? 23).map (·.size) = some 64 := by kernel_rfl
theorem inf5 : (Tryd.prog.info? 5).map (·.size) = some 1 := by kernel_rfl
theorem zero23 (w : World) : (zeroValue 23).run Tryd.prog w = .ok (.agg (row 64 (yv fun _ => 0#8)).toArray) w := by kernel_rfl
theorem add_off (b i : Nat) : Addr.add ⟨b, 0, none⟩ i = ⟨b, i, none⟩ := by unfold Addr.add; split <;> simp_all
end Go.Proofs.YtgjabfjkokpkiaaDoor
