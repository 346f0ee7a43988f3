/-
  append(s, make([]T, m)...): zeros behind a row of one's own; no word of the program. The document's root block. States packed into great numbers: the functions themselves reckoned, step by step.
-/
import Derived.Test.YtgjabfjkokpkiaaDoorQ8
import Derived.Test.YtgjabfjkokpkiaaDoorQ1
import Derived.Test.YtgjabfjkokpkiaaDoorQ34
import Derived.Test.YtgjabfjkokpkiaaDoorQ36
import Derived.Test.YtgjabfjkokpkiaaDoorQ12
import Derived.Test.YtgjabfjkokpkiaaDoorQ6
namespace Go.Proofs.YtgjabfjkokpkiaaDoor
open Go.RowKit Go.BigFrame
theorem zeroCells_one (zv : Value) (m : Nat) : Builtin.zeroCells #[zv] m = (row m fun _ => zv).toArray := by
  apply Array.ext'
  simp only [Builtin.zeroCells, row]
  apply List.ext_getElem?
  intro i
  by_cases h : i < m
  · simp [h, Nat.mod_one]
  · simp [h]
section
variable {P : Program} (w : World)
theorem run_zeros (base : Nat) (t u ty e : TypeId) (i : TypeInfo) (z zv : Value) (ht : P.underlying t = some (.slice e)) (hu : P.underlying u = some (.int .i64)) (hi : P.info? e = some i) (hz : i.zero = some z)
    (hsize : i.size = 1) (hby : i.bytes = 1) (hzc : z.cells = #[zv]) (h1 : zv.oneCell' = true)
    (g n cap : Nat) (xs : List Value) (hown : w.ownsRow base e 1 (.slice (some ⟨g, 0, none⟩) n cap) n xs) (m : Nat) (hm : 0 < m)
    (hbytes : n + m ≤ 140737488355328) (hbase : base ≤ w.heap.size) :
    ∃ v' w', (Builtin.append_ #[t, u] ty #[.slice (some ⟨g, 0, none⟩) n cap, .int .i64 (m : Int)]).run P w = .ok v' w' ∧ w'.ownsRow base e 1 v' (n + m) (xs ++ row m fun _ => zv) ∧ w.grownBy w' (some g) := by
  have h63 : n + m ≤ maxLen := by unfold maxLen; omega
  have hlr : (row m fun _ => zv).length = m := row_length _ _
  have hlen : (xs ++ row m fun _ => zv).length = (n + m) * 1 := by rw [List.length_append, hown.1, hlr, Nat.mul_one, Nat.mul_one]
  have hzs : z.cells.size = 1 := by rw [hzc]; rfl
  have hwr : IntKind.i64.wrap (m : Int) = (m : Int) := by rw [IntKind.wrap_i64]; omega
  have hneg : ¬ ((m : Int) < 0) := by omega
  have h48 : ¬ (281474976710656 < (m : Int)) := by omega
  have hm0 : ¬ (m = 0) := by omega
  have hall : ∀ u ∈ (row m fun _ => zv), u.oneCell' = true := fun u hu => by
    obtain ⟨j, _, rfl⟩ := List.mem_map.1 hu
    exact h1
  have hzz := zeroCells_one zv m
  rcases hown.2 with ⟨h, _⟩ | ⟨g', cap', cur, h, hbg, hg, hnc, hcm, hcs, htake⟩
  · cases h
  · injection h with e1 _ e3
    injection e1 with e1
    injection e1 with e1
    subst e1
    subst e3
    by_cases hroom : n + m ≤ cap
    · have hfit : n * i.size + (row m fun _ => zv).length ≤ cur.size := by rw [hsize, hlr, hcs]; omega
      have hst := run_storeCells_at P g (n * i.size) e (row m fun _ => zv) 0 cur w hg (by simpa using hfit) hall
      simp only [Nat.add_zero] at hst
      have hr : (Builtin.append_ #[t, u] ty #[.slice (some ⟨g, 0, none⟩) n cap, .int .i64 (m : Int)]).run P w = .ok (.slice (some ⟨g, 0, none⟩) (n + m) cap) (w.setRow g (cur.toList.take (n * i.size) ++ (row m fun _ => zv) ++ cur.toList.drop (n * i.size + (row m fun _ => zv).length)).toArray) := by
        simp only [hsize, Nat.mul_one, List.append_assoc] at hst ⊢
        simp [Builtin.append_, run_underlying ht, run_underlying hu, sizeOf, typeInfo, zeroValue, hi, hz, asInt, asIntOf, hwr, hneg, h48, hby, hsize, hm0, hzc, hzz, hroom, Addr.add_lit, hst]
      refine ⟨_, _, hr, ⟨hlen, .inr ⟨g, cap, _, rfl, hbg, setRow_heap w g cur _ e _ hg, hroom, hcm, ?_, ?_⟩⟩, ⟨rfl, rfl, rfl, by simp, fun k _ hk => setRow_other w g k _ (fun e => hk (by simp [e]))⟩⟩
      · simp only [List.size_toArray, List.length_append, List.length_take, List.length_drop, Array.length_toList]
        omega
      · rw [hsize, htake, ← hlen]
        exact List.take_left
    · have holds : ∀ j u, xs[j]? = some u → w.cell? ((⟨g, 0, none⟩ : Addr).add j) = some u := hown.cells (g := g) rfl
      have h63' : ¬ (9223372036854775807 < ((n : Int) + (m : Int))) := by omega
      have hfits := growslice_fits (need := n + m) (old := cap) (bytes := 1) (by omega) (by omega)
      have h48' : ¬ (281474976710656 < Builtin.nextslicecap (n + m) cap) := by omega
      have hfo := run_firstCells_some (P := P) w.drew 1 n ⟨g, 0, none⟩ n cap xs hown.1 (by simpa using holds)
      have hr : (Builtin.append_ #[t, u] ty #[.slice (some ⟨g, 0, none⟩) n cap, .int .i64 (m : Int)]).run P w = .ok (.slice (some ⟨w.heap.size, 0, none⟩) (n + m) (grownCap w (n + m) cap e)) (w.drew.alloc (.cells (xs.toArray ++ (row m fun _ => zv).toArray ++ Builtin.zeroCells #[zv] (grownCap w (n + m) cap e - (n + m))) e)) := by
        simp [Builtin.append_, run_underlying ht, run_underlying hu, sizeOf, typeInfo, zeroValue, hi, hz, asInt, asIntOf, hwr, hneg, h48, hby, hsize, hm0, hzc, hzz, hroom, h63', h48', Question.forced, hfo, newRow, grownCap]
        congr 2
        apply Array.ext'
        simp [List.append_assoc]
      have hge := grownCap_ge w (n + m) cap e
      have hcm' : grownCap w (n + m) cap e ≤ maxLen := grownCap_le_maxLen w (n + m) cap e h63
      refine ⟨_, _, hr, ⟨hlen, .inr ⟨w.heap.size, _, _, rfl, hbase, heap_alloc_new w.drew _, hge, hcm', ?_, ?_⟩⟩, ⟨rfl, rfl, rfl, by simp, fun k hk _ => heap_alloc_old w.drew _ (by exact hk)⟩⟩
      · have h2 : (Builtin.zeroCells #[zv] (grownCap w (n + m) cap e - (n + m))).size = grownCap w (n + m) cap e - (n + m) := by rw [size_zeroCells]; simp
        simp only [Array.size_append, List.size_toArray, h2, hown.1, hlr]
        omega
      · simp only [Array.toList_append, List.append_assoc]
        rw [← List.append_assoc, ← hlen]
        exact List.take_left
theorem wpList_zeros {ops : Array Oper} {rest : List Oper} {o : Oper} {a : Act} {Q : Exit → Act → World → Prop} {t u e : TypeId} {base n : Nat} {v : Value} {g f : Nat → Value} (zv : Value) (i : TypeInfo) (z : Value) (ht : P.underlying t = some (.slice e)) (hu : P.underlying u = some (.int .i64)) (hi : P.info? e = some i) (hz : i.zero = some z)
    (hsize : i.size = 1) (hby : i.bytes = 1) (hzc : z.cells = #[zv]) (h1 : zv.oneCell' = true) (hgd : o.guard = none) (s x : Operand)
    (ho : o.op = .call { callee := .builtin .append, args := #[s, x], argTypes := #[t, u] }) (hs : a.eval s = v) (hown : OwnB base e v n g w) (hn : 0 < n) (m : Nat) (hm : 0 < m) (hx : a.eval x = .int .i64 (m : Int))
    (hf1 : ∀ j, j < n → g j = f j) (hf2 : ∀ j, j < m → zv = f (n + j)) (hbytes : n + m ≤ 140737488355328) (hbase : base ≤ w.heap.size)
    (h : ∀ v' w', OwnB base e v' (n + m) f w' → w.grownBy w' v.ownBlock → wpList P ops Q rest (a.put o.dst v') w') : wpList P ops Q (o :: rest) a w := by
  obtain ⟨b, cap, rfl, _⟩ := hown.lies hn
  refine wpList_plain hgd fun K hK => ?_
  obtain ⟨v', w', hr, h2, h3⟩ := run_zeros (P := P) w base t u o.type e i z zv ht hu hi hz hsize hby hzc h1 b n cap (row n g) hown m hm hbytes hbase
  unfold Oper.wp execOp
  simp only [ho, resolve, invoke, builtin, Sem.run_bind, Sem.run_pure, Result.andThen_ok, List.map_toArray, List.map_cons, List.map_nil, hs, hx, hr]
  refine hK _ _ (h v' w' ?_ h3)
  unfold OwnB
  rwa [row_append n m g (fun _ => zv) f hf1 hf2] at h2
end
end Go.Proofs.YtgjabfjkokpkiaaDoor
namespace Go.Proofs.YtgjabfjkokpkiaaDoor
open Go.RowKit Go.BigFrame
set_option linter.unusedVariables false
set_option maxRecDepth 20000
theorem ty5 : ∃ i, Tryd.prog.info? 5 = some i ∧ i.zero = some (.int .u8 0) ∧ i.size = 1 ∧ i.bytes = 1 := by
  have h : (Tryd.prog.info? 5).map (fun i => (i.zero, i.size, i.bytes)) = some (some (.int .u8 0), 1, 1) := by kernel_rfl
  cases hi : Tryd.prog.info? 5 with
  | none => rw [hi] at h; cases h
  | some i =>
    rw [hi] at h
    injection h with h
    injection h with h1 h2
    injection h2 with h2 h3
    exact ⟨i, rfl, h1, h2, h3⟩
theorem w431 : IntKind.i64.wrap 431 = 431 := by decide
def mk11 (u : BitVec 8) (s : Nat) (i : Nat) (v : Value) (X : World) : Prop := if i = 2 then few 1 (fun _ => u) v X else few 4 (numB s) v X
theorem mk11_cl (B : Nat) (u : BitVec 8) (s : Nat) (i : Nat) (v : Value) : Cl (MvS B) (mk11 u s i v) := fun X Y h k => by
  unfold mk11 at h ⊢
  by_cases e : i = 2
  · rw [if_pos e] at h ⊢
    exact few_cl (by decide) (by decide) _ _ _ _ h k
  · rw [if_neg e] at h ⊢
    exact few_cl (by decide) (by decide) _ _ _ _ h k
def mk12 (B n i : Nat) (v : Value) (X : World) : Prop := if i = 9 then few 4 (numB n) v X else ∃ p, v = .pointer (some ⟨p, 0, none⟩) ∧ B ≤ p ∧ X.heap[p]? = some (.cells (row 32 (yv fun _ => 0#8)).toArray 31 (0, 0))
theorem mk12_cl (B n i : Nat) (v : Value) : Cl (MvS B) (mk12 B n i v) := fun X Y h k => by
  unfold mk12 at h ⊢
  by_cases e : i = 9
  · rw [if_pos e] at h ⊢
    exact few_cl (by decide) (by decide) _ _ _ _ h k
  · rw [if_neg e] at h ⊢
    obtain ⟨p, h1, h2, h3⟩ := h
    exact ⟨p, h1, h2, k.2.2.2.2.2 p _ _ _ h3 (.inl (by decide))⟩
theorem rb49 (g : BitVec 64) (b : Bool) (s : Nat) (H : Nat → BitVec 8) (u : BitVec 8) (hu : u = byB (fl b) 0) (j : Nat) : catF (catF (catF (rc12 g) 12 fun _ => u) 13 (numB s)) 17 H j = rbF g b s H j := by
  subst hu
  unfold rbF rc12 catF
  by_cases h1 : j < 17
  · rw [if_pos h1, if_pos h1]
    by_cases h2 : j < 13
    · rw [if_pos h2, if_pos h2]
      by_cases h3 : j < 12
      · rw [if_pos h3, if_pos h3]
      · rw [if_neg h3, if_neg h3, show j - 12 = 0 by omega]
    · rw [if_neg h2, if_neg h2]
      rfl
  · rw [if_neg h1, if_neg h1]
theorem rk_cell2 (K : Nat → BitVec 8) (h : Hd) (g : BitVec 64) (b : Bool) (s : Nat) (H : Nat → BitVec 8) (j : Nat) : padF (catF (rbF g b s H) 49 (rgF K h g b s H)) 81 j = rkF K h g b s H j := by
  unfold padF catF rkF
  by_cases h1 : j < 49
  · rw [if_pos (by omega), if_pos h1, if_pos h1]
  · by_cases h2 : j < 81
    · rw [if_pos h2, if_neg h1, if_neg h1, if_pos h2]
    · rw [if_neg h2, if_neg h1, if_neg h2]
set_option maxRecDepth 20000 in
set_option maxHeartbeats 4000000 in
theorem rrb_true (K : Nat → BitVec 8) (h : Hd) (g : BitVec 64) (s : Nat) (H : Nat → BitVec 8) (w : World) (hk : okH h) (hs4 : s < 4294967296) (hs2 : (s : Int) ≤ h.se) : Calls Tryd.prog 13 #[.agg (row 32 (yv K)).toArray, .agg (row 24 (hdv h)).toArray, .agg (row 35 (rtV g true (s : Int) H)).toArray] w fun e w' => ∃ v, e = .returned (.tuple #[v, .int .i64 0]) ∧ BV v 512 (rkF K h g true s H) w' ∧ Ext w w' := by
  have hs0 : ¬ (s : Int) < 0 := by omega
  have hE := hideit (Ext.refl w)
  go_enter Tryd.func13, Tryd.ntmps13
  go_upto_region 0 with (fail)
  refine wp_region_lit ?_
  have A0 := hideit (RowAt.new w 32 (yv K) 31)
  have XB : Ext w (w.alloc (.cells (row 32 (yv K)).toArray 31)) := (Below.refl _ _).alloc (Nat.le_refl _) _
  have AE := hideit (Ext.trans hE.out (XB))
  have AB := hideit (hE.out.size)
  clear XB
  refine wpList_to rfl (.pointer (some ⟨w.heap.size, 0, none⟩)) (w.alloc (.cells (row 32 (yv K)).toArray 31)) (by simp [go_sem]) ?_
  simp only [zp0, zp1, zp2, zp3]
  generalize w.alloc (.cells (row 32 (yv K)).toArray 31) = x1 at A0 AE ⊢
  obtain ⟨c3, ec3⟩ : ∃ b, b = w.heap.size := ⟨_, rfl⟩
  have ABc3 : Hid (w.heap.size ≤ c3) := by rw [ec3]; exact AB.out
  clear AB
  rw [← ec3] at A0  ⊢
  clear ec3
  have Hc3 := A0
  clear A0
  replace hE := AE
  clear AE
  have A0 := hideit (RowAt.new x1 24 (hdv h) 37)
  have XB : Ext x1 (x1.alloc (.cells (row 24 (hdv h)).toArray 37)) := (Below.refl _ _).alloc (Nat.le_refl _) _
  have A1 := hideit (Hc3.out.carry XB)
  have AE := hideit (Ext.trans hE.out (XB))
  have AB := hideit (hE.out.size)
  have D0 : Hid (c3 ≠ x1.heap.size) := Nat.ne_of_lt Hc3.out.2.2
  clear XB
  refine wpList_to rfl (.pointer (some ⟨x1.heap.size, 0, none⟩)) (x1.alloc (.cells (row 24 (hdv h)).toArray 37)) (by simp [go_sem]) ?_
  simp only [zp0, zp1, zp2, zp3]
  generalize x1.alloc (.cells (row 24 (hdv h)).toArray 37) = x2 at A0 A1 AE ⊢
  obtain ⟨c4, ec4⟩ : ∃ b, b = x1.heap.size := ⟨_, rfl⟩
  have ABc4 : Hid (w.heap.size ≤ c4) := by rw [ec4]; exact AB.out
  clear AB
  rw [← ec4] at A0 D0 ⊢
  clear ec4
  have Hc4 := A0
  clear A0
  replace Hc3 := A1
  clear A1
  replace hE := AE
  clear AE
  have Dc4_0 := D0
  clear D0
  have A0 := hideit (RowAt.new x2 35 (rtV g true (s : Int) H) 39)
  have XB : Ext x2 (x2.alloc (.cells (row 35 (rtV g true (s : Int) H)).toArray 39)) := (Below.refl _ _).alloc (Nat.le_refl _) _
  have A1 := hideit (Hc3.out.carry XB)
  have A2 := hideit (Hc4.out.carry XB)
  have AE := hideit (Ext.trans hE.out (XB))
  have AB := hideit (hE.out.size)
  have D0 : Hid (c3 ≠ x2.heap.size) := Nat.ne_of_lt Hc3.out.2.2
  have D1 : Hid (c4 ≠ x2.heap.size) := Nat.ne_of_lt Hc4.out.2.2
  clear XB
  refine wpList_to rfl (.pointer (some ⟨x2.heap.size, 0, none⟩)) (x2.alloc (.cells (row 35 (rtV g true (s : Int) H)).toArray 39)) (by simp [go_sem]) ?_
  simp only [zp0, zp1, zp2, zp3]
  generalize x2.alloc (.cells (row 35 (rtV g true (s : Int) H)).toArray 39) = x3 at A0 A1 A2 AE ⊢
  obtain ⟨c5, ec5⟩ : ∃ b, b = x2.heap.size := ⟨_, rfl⟩
  have ABc5 : Hid (w.heap.size ≤ c5) := by rw [ec5]; exact AB.out
  clear AB
  rw [← ec5] at A0 D0 D1 ⊢
  clear ec5
  have Hc5 := A0
  clear A0
  replace Hc3 := A1
  clear A1
  replace Hc4 := A2
  clear A2
  replace hE := AE
  clear AE
  have Dc5_0 := D0
  clear D0
  have Dc5_1 := D1
  clear D1
  refine xm [some (.slice none 0 0), some (.int .i64 0)] (by kernel_rfl) (by simp [xr, go_sem]) ?_
  simp only [xw, p0, p1, p2, p3]
  go_upto_region 1 with (fail)
  refine wp_region_lit ?_
  refine wpList_run rfl (.agg (row 24 (hdv h)).toArray) (xload 37 (.tmp 4) rfl c4 0 24 _ rfl Hc4.out.range Tryd.underlying37 rfl inf37) ?_
  simp only [zp0, zp1, zp2, zp3]
  refine wpList_call rfl (by simp [go_sem]) ((rcheck_ok h x3 hk).mono ?_)
  rintro e y2 ⟨rfl, hX2⟩
  refine ⟨_, rfl, ?_⟩
  simp only [zp0, zp1, zp2, zp3]
  replace Hc3 := hideit (Hc3.out.carry hX2)
  replace Hc4 := hideit (Hc4.out.carry hX2)
  replace Hc5 := hideit (Hc5.out.carry hX2)
  replace hE := hideit (Ext.trans hE.out (hX2))
  clear hX2
  have m4 : y2.cell? ⟨c5, 2, none⟩ = some (.int .i64 (s : Int)) := Hc5.out.1 2 (by decide)
  have m6 : y2.cell? ⟨c4, 1, none⟩ = some (.int .i64 (h.se)) := Hc4.out.1 1 (by decide)
  have m7 : y2.cell? ⟨c5, 1, none⟩ = some (.bool true) := Hc5.out.1 1 (by decide)
  refine xm [some (.bool false), some (.bool false), some (.pointer (some ⟨c5, 2, none⟩)), some (.int .i64 (s : Int)), some (.bool false), some (.bool false), some (.bool false), some (.pointer (some ⟨c5, 2, none⟩)), some (.int .i64 (s : Int)), some (.pointer (some ⟨c4, 1, none⟩)), some (.int .i64 (h.se)), some (.bool false), some (.bool false), some (.bool false), some (.pointer (some ⟨c5, 1, none⟩)), some (.bool true), some (.bool false), some (.bool false), none, none, none, some (.bool false), some (.bool false)] (by kernel_rfl) (by simp [xr, go_sem, m4, hs0, m6, hs2, m7]) ?_
  simp only [xw, p0, p1, p2, p3]
  clear m4
  clear m6
  clear m7
  go_upto_region 3 with (fail)
  refine wp_region_lit ?_
  refine wpList_to rfl (.slice (some ⟨y2.heap.size, 0, none⟩) 4 4) (y2.alloc (.cells #[.int .u8 82, .int .u8 79, .int .u8 79, .int .u8 84] 5)) (by simp [go_sem]) ?_
  simp only [zp0, zp1, zp2, zp3]
  obtain ⟨x8, hr, hB, hX⟩ := constB y2 #[.int .u8 82, .int .u8 79, .int .u8 79, .int .u8 84] 4 (rootF) (fun j hj => by rcases (by omega : j = 0 ∨ j = 1 ∨ j = 2 ∨ j = 3) with rfl | rfl | rfl | rfl <;> rfl)
  refine wpList_to rfl (.slice (some ⟨y2.heap.size, 0, none⟩) 4 4) x8 (by simp [go_sem, hr]) ?_
  simp only [zp0, zp1, zp2, zp3]
  obtain ⟨a1, ea1⟩ : ∃ a : Addr, a = ⟨y2.heap.size, 0, none⟩ := ⟨_, rfl⟩
  rw [← ea1] at hB ⊢
  clear ea1 hr
  have hb1 := hideit hB
  clear hB
  replace Hc3 := hideit (Hc3.out.carry hX)
  replace Hc4 := hideit (Hc4.out.carry hX)
  replace Hc5 := hideit (Hc5.out.carry hX)
  replace hE := hideit (Ext.trans hE.out (hX))
  clear hX
  refine xm [some (.slice (some a1) 4 4)] (by kernel_rfl) (by simp [xr, go_sem]) ?_
  simp only [xw, p0, p1, p2, p3]
  go_upto_region 4 with (fail)
  refine wp_region_lit ?_
  refine xm [some (.int .i64 0)] (by kernel_rfl) (by simp [xr, go_sem]) ?_
  simp only [xw, p0, p1, p2, p3]
  go_wp2
  go_loopw [8, 9] (fun v t X => ∃ (i : Nat) (u : Value), i ≤ 8 ∧ u = v ∧ t = .int .i64 (i : Int) ∧ RS x8 g i u X) (fun _ t _ => 8 - (intOf t).toNat)
  case atStart => exact ⟨0, _, by omega, rfl, rfl, Ext.refl _, .inl ⟨a1, rfl, rfl, hb1.out⟩⟩
  case round =>
    obtain ⟨i, u8, hi5, hu8, rfl, hR⟩ := hrel
    subst hu8
    replace hR := hideit hR
    have rE := hideit hR.out.1
    have r5 := hideit (Hc5.out.carry rE.out)
    by_cases hi2 : (i : Int) < 8
    · have hi := hideit hi2
      have hin : Hid (i < 8) := by show i < 8; omega
      have ek : IntKind.i64.wrap ((i : Int) + 1) = ((i + 1 : Nat) : Int) := by rw [IntKind.wrap_i64]; omega
      have hmul : Hid (IntKind.i64.wrap (8 * (i : Int)) = 8 * (i : Int)) := by show IntKind.i64.wrap (8 * (i : Int)) = _; rw [IntKind.wrap_i64]; omega
      have hq8 := hideit (by_at g i)
      have hsh : Hid ((g.toNat : Int) / 2 ^ (8 * (i : Int)).toNat = ((g.toNat / 2 ^ (8 * i) : Nat) : Int)) := by
        show (g.toNat : Int) / 2 ^ (8 * (i : Int)).toNat = _
        rw [show (8 * (i : Int)).toNat = 8 * i by omega, Int.natCast_ediv, Int.natCast_pow]
        rfl
      obtain ⟨q, hq⟩ : ∃ q, q = g.toNat / 2 ^ (8 * i) := ⟨_, rfl⟩
      rw [← hq] at hq8 hsh
      have hsr : Hid (Op.shift .shr .u64 (g.toNat : Int) .i64 (8 * (i : Int)) = pure (.int .u64 (q : Int))) := by
        have h0 := hin.out
        have h1 : (0 : Int) ≤ 8 * (i : Int) := by omega
        have h2 : 8 * (i : Int) ≤ 64 := by omega
        show _ = _
        rw [shift_shr_u64 .i64 _ _ h1 h2, hsh.out]
      clear hq hi2 hi5
      go_upto_region 5 with (fail)
      refine wp_region_lit ?_
      refine xm [some (.int .i64 (i : Int)), some (.bool true)] (by kernel_rfl) (by simp [xr, go_sem, hi.out]) ?_
      simp only [xw, p0, p1, p2, p3]
      go_upto_region 7 with (fail)
      refine wp_region_lit ?_
      have m9 : wr.cell? ⟨c5, 0, none⟩ = some (.int .u64 ((g.toNat : Int))) := r5.out.1 0 (by decide)
      refine xm [some (u8), some (.pointer (some ⟨c5, 0, none⟩)), some (.int .u64 ((g.toNat : Int))), some (.int .i64 (i : Int)), some (.int .i64 (8 * (i : Int))), some (.int .u64 (q : Int)), some (.int .u8 ((byB g i).toNat : Int))] (by kernel_rfl) (by simp [xr, go_sem, m9, hmul.out, hsr.out, hq8.out]) ?_
      simp only [xw, p0, p1, p2, p3]
      clear m9
      have hX : Ext wr (wr.alloc (.cells #[.int .u8 ((byB g i).toNat : Int)] 5)) := (Below.refl _ _).alloc (Nat.le_refl _) _
      obtain ⟨v9, Y9, hrun, hR9⟩ := rs_app 22 (hR.out.ext hX) hin.out (few_bv (few_one wr (byB g i)))
      refine wpList_to rfl (.slice (some ⟨wr.heap.size, 0, none⟩) 1 1) (wr.alloc (.cells #[.int .u8 ((byB g i).toNat : Int)] 5)) (by simp [go_sem]) ?_
      simp only [zp0, zp1, zp2, zp3]
      refine wpList_to rfl v9 Y9 (exec_append (.tmp 43) (.tmp 50) 22 22 rfl _ _ _ rfl rfl hrun) ?_
      simp only [zp0, zp1, zp2, zp3]
      replace hR9 := hideit hR9
      clear hrun hX hR rE r5
      refine xm [some (v9)] (by kernel_rfl) (by simp [xr, go_sem]) ?_
      simp only [xw, p0, p1, p2, p3]
      go_upto_region 6 with (fail)
      refine wp_region_lit ?_
      refine xm [some (.int .i64 (i : Int)), some (.int .i64 ((i + 1 : Nat) : Int)), some (.int .i64 ((i + 1 : Nat) : Int))] (by kernel_rfl) (by simp [xr, go_sem, ek]) ?_
      simp only [xw, p0, p1, p2, p3]
      go_wp2
      go_round
      case rel => exact ⟨i + 1, _, by have := hin.out; omega, rfl, rfl, hR9.out⟩
      case measure => have := hin.out; simp [intOf]; omega
    · have hi := hideit hi2
      have hge : Hid (8 ≤ (i : Int)) := by show 8 ≤ (i : Int); omega
      have hG : Hid (GB x8 u8 12 (rc12 g) wr) := by
        rcases hR.out.2 with ⟨a, h0, _⟩ | h2
        · omega
        · exact h2.congr (by omega) fun _ _ => rfl
      clear hi2 hi5 hR
      go_upto_region 5 with (fail)
      refine wp_region_lit ?_
      refine xm [some (.int .i64 (i : Int)), some (.bool false)] (by kernel_rfl) (by simp [xr, go_sem, hge.out]) ?_
      simp only [xw, p0, p1, p2, p3]
      go_upto_region 8 with (fail)
      refine wp_region_lit ?_
      refine xm [some (.int .u8 0)] (by kernel_rfl) (by simp [xr, go_sem]) ?_
      simp only [xw, p0, p1, p2, p3]
      go_upto_region 9 with (fail)
      refine wp_region_lit ?_
      have m9 : wr.cell? ⟨c5, 1, none⟩ = some (.bool true) := r5.out.1 1 (by decide)
      refine xm [some (.pointer (some ⟨c5, 1, none⟩)), some (.bool true)] (by kernel_rfl) (by simp [xr, go_sem, m9]) ?_
      simp only [xw, p0, p1, p2, p3]
      clear m9
      go_upto_region 10 with (fail)
      refine wp_region_lit ?_
      refine xm [some (.int .u8 1)] (by kernel_rfl) (by simp [xr, go_sem]) ?_
      simp only [xw, p0, p1, p2, p3]
      have hW : GB x8 u8 12 (rc12 g) wr.drew := hG.out.ext (Ext.refl _).draw
      clear hG rE r5
      go_upto_region 11 with (fail)
      refine wp_region_ladj Ext (MvS x8.heap.size) (fun X => Ext x8 X) (mk11 1#8 s) [] [] [(0, 0), (0, 1), (0, 4), (0, 5), (0, 8), (0, 9), (2, 2), (1, 3), (2, 6), (1, 7), (1, 10), (0, 11)] (by kernel_rfl) (by kernel_rfl) (by decide +kernel) (by decide +kernel) (by decide +kernel) (by decide +kernel) (fun _ _ h => mvs_ext h) (mk11_cl _ _ _) (fun X => GB x8 u8 12 (rc12 g) X) (fun _ h => h.2) (fun _ _ h k => h.ext k) hW ?_
      clear hW
      refine wpJ_f _ (u8) rfl rfl (fun X hX => by simp [go_sem]) ?_
      simp only [List.getElem_toArray, List.getElem_cons_zero, Act.put, List.setIfInBounds_toArray, List.set_cons_zero, List.set_cons_succ]
      refine wpJ_f _ (.int .u8 1) rfl rfl (fun X hX => by simp [go_sem]) ?_
      simp only [zp4, zp5, zp6, zp0, zp1, zp2, zp3]
      refine wpJ_f _ (.pointer (some ⟨c5, 2, none⟩)) rfl rfl (fun X hX => by simp [go_sem]) ?_
      simp only [zp4, zp5, zp6, zp0, zp1, zp2, zp3]
      refine wpJ_f _ (.int .i64 (s : Int)) rfl rfl (fun X hX => by
        have q : X.cell? ⟨c5, 2, none⟩ = some (.int .i64 (s : Int)) := (Hc5.out.carry hX).1 2 (by decide)
        simp [go_sem, q]) ?_
      simp only [zp4, zp5, zp6, zp0, zp1, zp2, zp3]
      refine wpJ_f _ (.pointer (some ⟨c5, 3, none⟩)) rfl rfl (fun X hX => by simp [go_sem]) ?_
      simp only [zp4, zp5, zp6, zp0, zp1, zp2, zp3]
      refine wpJ_f _ (.slice (some ⟨c5, 3, none⟩) 32 32) rfl rfl (fun X hX => by simp [go_sem]) ?_
      simp only [zp4, zp5, zp6, zp0, zp1, zp2, zp3]
      refine wpJ_m _ rfl rfl (fun X hX => ⟨_, X.alloc (.cells #[.int .u8 1] 5), by simp [go_sem], few_one X 1#8, (Below.refl _ _).alloc (Nat.le_refl _) _⟩) ?_
      rintro v2 _
      simp only [zp4, zp5, zp6, zp0, zp1, zp2, zp3]
      refine wpJ_to _ rfl rfl fun X hX => ?_
      obtain ⟨v3, Y3, hrun, hG3, hm3⟩ := gb_app 22 hX.1 (.inl (by decide)) v2 1 _ (few_bv (show few 1 (fun _ => 1#8) v2 X from hX.2)) (by decide) (by decide)
      refine ⟨v3, Y3, exec_append (.tmp 54) (.tmp 56) 22 22 rfl _ _ _ rfl rfl hrun, fun Z => GB x8 v3 13 (catF (rc12 g) 12 fun _ => 1#8) Z, hG3, .inr (.inr ⟨fun Z hZ => hZ.2, hm3, fun _ _ hA k => hA.ext k⟩), ?_⟩
      clear hrun hG3 hm3 hX
      simp only [zp4, zp5, zp6, zp0, zp1, zp2, zp3]
      refine wpJ_mcall _ rfl rfl (fun X hX => by simp [go_sem]) (fun X hX => (four_any s hs4 X).mono ?_) ?_
      · rintro e9 X9 ⟨v9, rfl, hf, hE9⟩
        exact ⟨v9, rfl, hf, hE9⟩
      rintro v6 _
      simp only [zp4, zp5, zp6, zp0, zp1, zp2, zp3]
      refine wpJ_to _ rfl rfl fun X hX => ?_
      obtain ⟨v7, Y7, hrun, hG7, hm7⟩ := gb_app 22 hX.1 (.inl (by decide)) v6 4 _ (few_bv (show few 4 (numB s) v6 X from hX.2)) (by decide) (by decide)
      refine ⟨v7, Y7, exec_append (.tmp 57) (.tmp 60) 22 22 rfl _ _ _ rfl rfl hrun, fun Z => GB x8 v7 17 (catF (catF (rc12 g) 12 fun _ => 1#8) 13 (numB s)) Z, hG7, .inr (.inr ⟨fun Z hZ => hZ.2, hm7, fun _ _ hA k => hA.ext k⟩), ?_⟩
      clear hrun hG7 hm7 hX
      simp only [zp4, zp5, zp6, zp0, zp1, zp2, zp3]
      refine wpJ_to _ rfl rfl fun X hX => ?_
      obtain ⟨v10, Y10, hrun, hG10, hm10⟩ := gb_app 22 hX (.inl (by decide)) (.slice (some ⟨c5, 3, none⟩) 32 32) 32 H (.inr ⟨⟨c5, 3, none⟩, 32, rfl, Nat.le_refl _, rt_hash (Hc5.out.carry hX.2)⟩) (by decide) (by decide)
      refine ⟨v10, Y10, exec_append (.tmp 61) (.tmp 63) 22 22 rfl _ _ _ rfl rfl hrun, fun Z => GB x8 v10 49 (catF (catF (catF (rc12 g) 12 fun _ => 1#8) 13 (numB s)) 17 H) Z, hG10, .inr (.inr ⟨fun Z hZ => hZ.2, hm10, fun _ _ hA k => hA.ext k⟩), ?_⟩
      clear hrun hG10 hm10 hX
      simp only [zp4, zp5, zp6, zp0, zp1, zp2, zp3]
      refine wpJ_f _ (v10) rfl rfl (fun X hX => by simp [go_sem]) ?_
      simp only [zp4, zp5, zp6, zp0, zp1, zp2, zp3]
      refine wpJ_nil fun Y hY => ?_
      have hG := hideit (hY.congr (g := rbF g true s H) rfl fun j _ => rb49 g true s H 1#8 (by decide) j)
      clear hY
      obtain ⟨W, hW⟩ : ∃ W, W = Y.drew := ⟨_, rfl⟩
      have hYW : Ext Y W := by rw [hW]; exact (Ext.refl _).draw
      have Q3 := hideit (Hc3.out.carry (Ext.trans hG.out.2 hYW))
      have Q4 := hideit (Hc4.out.carry (Ext.trans hG.out.2 hYW))
      replace hG := hideit (hG.out.ext hYW)
      clear hYW
      obtain ⟨n, hn⟩ : ∃ n : Nat, n = h.se.toNat := ⟨_, rfl⟩
      have hnl : n < 4294967296 := by have := hk.1; unfold okA at this; omega
      have hsn : h.se = (n : Int) := by have := hk.1; unfold okA at this; omega
      go_upto_region 12 with (fail)
      refine wp_region_ladj Ext (MvS W.heap.size) (fun X => Ext W X) (mk12 W.heap.size n) [13] [] [(0, 0), (0, 2), (0, 4), (0, 5), (0, 7), (0, 8), (1, 1), (1, 3), (1, 6), (2, 9), (1, 10), (1, 11), (2, 12), (1, 13)] (by kernel_rfl) (by kernel_rfl) (by decide +kernel) (by decide +kernel) (by decide +kernel) (by decide +kernel) (fun _ _ h => mvs_ext h) (mk12_cl _ _) (fun X => Ext W X) (fun _ h => h) (fun _ _ h k => Ext.trans h k) (by rw [← hW]; exact Ext.refl _) ?_
      refine wpJ_f _ (.slice (some ⟨c3, 0, none⟩) 32 32) rfl rfl (fun X hX => by simp [go_sem]) ?_
      simp only [List.getElem_toArray, List.getElem_cons_zero, Act.put, List.setIfInBounds_toArray, List.set_cons_zero, List.set_cons_succ]
      refine wpJ_f _ (v10) rfl rfl (fun X hX => by simp [go_sem]) ?_
      simp only [zp4, zp5, zp6, zp0, zp1, zp2, zp3]
      refine wpJ_f _ (.pointer (some ⟨c4, 8, none⟩)) rfl rfl (fun X hX => by simp [go_sem]) ?_
      simp only [zp4, zp5, zp6, zp0, zp1, zp2, zp3]
      refine wpJ_f _ (.slice (some ⟨c4, 8, none⟩) 16 16) rfl rfl (fun X hX => by simp [go_sem]) ?_
      simp only [zp4, zp5, zp6, zp0, zp1, zp2, zp3]
      refine wpJ_f _ (.pointer (some ⟨c4, 1, none⟩)) rfl rfl (fun X hX => by simp [go_sem]) ?_
      simp only [zp4, zp5, zp6, zp0, zp1, zp2, zp3]
      refine wpJ_f _ (.int .i64 (n : Int)) rfl rfl (fun X hX => by
        have q : X.cell? ⟨c4, 1, none⟩ = some (.int .i64 (n : Int)) := by rw [← hsn]; exact (Q4.out.carry hX).1 1 (by decide)
        simp [go_sem, q]) ?_
      simp only [zp4, zp5, zp6, zp0, zp1, zp2, zp3]
      refine wpJ_to _ rfl rfl fun X hX => ?_
      have hE1 := GB.empty W hX (fun _ => 0#8)
      obtain ⟨b1, hb1'⟩ : ∃ b, b = X.heap.size := ⟨_, rfl⟩
      rw [← hb1'] at hE1
      refine ⟨.slice (some ⟨b1, 0, none⟩) 0 0, X.alloc (.cells #[] 5), by rw [hb1']; simp [go_sem], fun Z => GB W (.slice (some ⟨b1, 0, none⟩) 0 0) 0 (fun _ => 0#8) Z, hE1, .inr (.inr ⟨fun Z hZ => hZ.2, mvs_ext ((Below.refl _ _).alloc (Nat.le_refl _) _), fun _ _ hA k => hA.ext k⟩), ?_⟩
      clear hE1 hb1' hX
      simp only [zp4, zp5, zp6, zp0, zp1, zp2, zp3]
      refine wpJ_to _ rfl rfl fun X hX => ?_
      obtain ⟨v3', Y3', hrun, hG3, hm3⟩ := gb_app 22 hX (.inr ⟨_, rfl⟩) v10 49 (rbF g true s H) (hG.out.bv.ext hX.2) (by decide) (by decide)
      refine ⟨v3', Y3', exec_append (.tmp 66) (.tmp 67) 22 22 rfl _ _ _ rfl rfl hrun, fun Z => GB W v3' 49 (catF (fun _ => 0#8) 0 (rbF g true s H)) Z, hG3, .inr (.inr ⟨fun Z hZ => hZ.2, hm3, fun _ _ hA k => hA.ext k⟩), ?_⟩
      clear hrun hG3 hm3 hX
      simp only [zp4, zp5, zp6, zp0, zp1, zp2, zp3]
      refine wpJ_to _ rfl rfl fun X hX => ?_
      obtain ⟨v6', Y6', hrun, hG6, hm6⟩ := gb_app 22 hX (.inl (by decide)) (.slice (some ⟨c4, 8, none⟩) 16 16) 16 h.nm (.inr ⟨⟨c4, 8, none⟩, 16, rfl, Nat.le_refl _, hd_name (Q4.out.carry hX.2)⟩) (by decide) (by decide)
      refine ⟨v6', Y6', exec_append (.tmp 68) (.tmp 70) 22 22 rfl _ _ _ rfl rfl hrun, fun Z => GB W v6' 65 (catF (catF (fun _ => 0#8) 0 (rbF g true s H)) 49 h.nm) Z, hG6, .inr (.inr ⟨fun Z hZ => hZ.2, hm6, fun _ _ hA k => hA.ext k⟩), ?_⟩
      clear hrun hG6 hm6 hX
      simp only [zp4, zp5, zp6, zp0, zp1, zp2, zp3]
      refine wpJ_mcall _ rfl rfl (fun X hX => by simp [go_sem]) (fun X hX => (four_any n hnl X).mono ?_) ?_
      · rintro e9 X9 ⟨v9, rfl, hf, hE9⟩
        exact ⟨v9, rfl, hf, hE9⟩
      rintro v9' _
      simp only [zp4, zp5, zp6, zp0, zp1, zp2, zp3]
      refine wpJ_to _ rfl rfl fun X hX => ?_
      obtain ⟨va, Ya, hrun, hGa, hma⟩ := gb_app 22 hX.1 (.inl (by decide)) v9' 4 _ (few_bv (show few 4 (numB n) v9' X from hX.2)) (by decide) (by decide)
      refine ⟨va, Ya, exec_append (.tmp 71) (.tmp 74) 22 22 rfl _ _ _ rfl rfl hrun, fun Z => GB W va 69 (catF (catF (catF (fun _ => 0#8) 0 (rbF g true s H)) 49 h.nm) 65 (numB n)) Z, hGa, .inr (.inr ⟨fun Z hZ => hZ.2, hma, fun _ _ hA k => hA.ext k⟩), ?_⟩
      clear hrun hGa hma hX
      simp only [zp4, zp5, zp6, zp0, zp1, zp2, zp3]
      refine wpJ_call _ rfl rfl (fun X hX => by simp [go_sem]) (fun X hX => (rTag_any (.slice (some ⟨c3, 0, none⟩) 32 32) va 32 69 K _ X (.inr ⟨⟨c3, 0, none⟩, 32, rfl, Nat.le_refl _, RowAt.lie (Q3.out.carry hX.2) 32 (Nat.le_refl _)⟩) hX.bv (by decide) (by decide)).mono ?_)
      rintro e9 X9 ⟨rfl, hX9⟩
      have eRG : tagF 32 K (catF (catF (catF (fun _ => 0#8) 0 (rbF g true s H)) 49 h.nm) 65 (numB n)) 69 = rgF K h g true s H := by rw [hn]; rfl
      rw [eRG]
      refine ⟨_, rfl, fun Z => Ext W Z, Ext.trans hX.2 hX9, .inr (.inr ⟨fun Z hZ => hZ, mvs_ext hX9, fun _ _ hA k => Ext.trans hA k⟩), ?_⟩
      clear hX9 hX eRG
      simp only [zp4, zp5, zp6, zp0, zp1, zp2, zp3]
      refine wpJ_m _ rfl rfl (fun X hX => ⟨.pointer (some ⟨X.heap.size, 0, none⟩), X.alloc (.cells (row 32 (yv fun _ => 0#8)).toArray 31), xalloc 31 _ rfl (zero24 _), ⟨X.heap.size, rfl, Below.size hX, heap_new _ _ _⟩, (Below.refl _ _).alloc (Nat.le_refl _) _⟩) ?_
      rintro vb ⟨_, -, p, rfl, -⟩
      simp only [zp4, zp5, zp6, zp0, zp1, zp2, zp3]
      refine wpJ_st _ rfl rfl fun X hX => ?_
      obtain ⟨EX, p', f5, hp, hm⟩ := hX
      injection f5 with f5
      injection f5 with f5
      injection f5 with f5
      subst f5
      have N0 := hideit ((row_heap hm).cells (g' := yv (rgF K h g true s H)))
      have NE := hideit (below_setCells p hp (row 32 (yv (rgF K h g true s H))) 0 _ EX)
      refine ⟨X.setCells p 0 (row 32 (yv (rgF K h g true s H))), xstore 31 (.tmp 11) (.tmp 76) rfl p 32 _ (yv (rgF K h g true s H)) rfl rfl (row_heap hm) inf31 (fun _ _ => rfl), fun Y => Y = X.setCells p 0 (row 32 (yv (rgF K h g true s H))), rfl, .inl (by simp), ?_⟩
      simp only [List.getElem_toArray, List.getElem_cons_zero, List.getElem_cons_succ, Act.put]
      refine wpJ_nil fun Y2 hY => ?_
      rw [← hY] at N0 NE
      clear hY hm EX
      replace hG := hideit (hG.out.ext NE.out)
      clear NE Q3 Q4 hsn hn hnl hW
      go_upto_region 13 with (fail)
      refine wp_region_lit ?_
      refine xm [some (v10), some (.slice (some ⟨p, 0, none⟩) 32 32)] (by kernel_rfl) (by simp [xr, go_sem]) ?_
      simp only [xw, p0, p1, p2, p3]
      refine wpList_gb rfl (.tmp 77) (.tmp 78) rfl rfl hG.out (.slice (some ⟨p, 0, none⟩) 32 32) 32 (rgF K h g true s H) rfl (.inr ⟨⟨p, 0, none⟩, 32, rfl, Nat.le_refl _, RowAt.lie N0.out 32 (Nat.le_refl _)⟩) (by decide) ?_
      intro vc Xc hGc
      simp only [zp0, zp1, zp2, zp3]
      obtain ⟨oc, cc, rfl⟩ := hGc.form
      replace hGc := hideit hGc
      clear hG N0
      refine xm [some (.slice oc (49 + 32) cc)] (by kernel_rfl) (by simp [xr, go_sem]) ?_
      simp only [xw, p0, p1, p2, p3]
      go_upto_region 14 with (fail)
      refine wp_region_lit ?_
      refine xm [some (.slice oc (49 + 32) cc), some (.slice oc (49 + 32) cc), some (.int .i64 81), some (.int .i64 431)] (by kernel_rfl) (by simp [xr, go_sem, w431]) ?_
      simp only [xw, p0, p1, p2, p3]
      obtain ⟨i5, z1, z2, z3, z4⟩ := ty5
      refine wpList_zeros (P := Tryd.prog) (n := 49 + 32) (base := x8.heap.size) (g := yv (catF (rbF g true s H) 49 (rgF K h g true s H))) (f := yv (padF (catF (rbF g true s H) 49 (rgF K h g true s H)) 81)) Xc (.int .u8 0) i5 _ Tryd.underlying22 Tryd.underlying3 z1 z2 z3 z4 rfl rfl rfl (.tmp 80) (.tmp 83) rfl rfl hGc.out.1 (by decide) 431 (by decide) rfl (fun j hj => by simp only [yv, padF, if_pos (show j < 81 by omega)]) (fun j hj => by simp only [yv, padF, if_neg (show ¬ 49 + 32 + j < 81 by omega)]; rfl) (by decide) (Below.size hGc.out.2) ?_
      intro vd Xd hOd hgd
      have hE9 := hideit (Ext.trans hE.out (grown_ext hGc.out.2 hgd fun k hk => (hGc.out.1.lt k hk).1))
      replace hOd := hideit (hOd.bv.congr fun j _ => rk_cell2 K h g true s H j)
      clear hGc hgd z1 z2 z3 z4
      simp only [zp0, zp1, zp2, zp3]
      refine xm [some (vd), some (.int .i64 0)] (by kernel_rfl) (by simp [xr, go_sem]) ?_
      simp only [xw, p0, p1, p2, p3]
      go_wp2
      refine bodyPost_ret (res2 rfl _ _ _) rfl ?_
      exact ⟨_, rfl, hOd.out, hE9.out⟩
set_option maxRecDepth 20000 in
set_option maxHeartbeats 4000000 in
theorem rrb_false (K : Nat → BitVec 8) (h : Hd) (g : BitVec 64) (s : Nat) (H : Nat → BitVec 8) (w : World) (hk : okH h) (hs4 : s < 4294967296) (hs2 : (s : Int) ≤ h.se) (hs3 : s = 0) : Calls Tryd.prog 13 #[.agg (row 32 (yv K)).toArray, .agg (row 24 (hdv h)).toArray, .agg (row 35 (rtV g false (s : Int) H)).toArray] w fun e w' => ∃ v, e = .returned (.tuple #[v, .int .i64 0]) ∧ BV v 512 (rkF K h g false s H) w' ∧ Ext w w' := by
  have hs22 : 0 ≤ h.se := by omega
  replace hs3 := hideit hs3
  have hE := hideit (Ext.refl w)
  go_enter Tryd.func13, Tryd.ntmps13
  go_upto_region 0 with (fail)
  refine wp_region_lit ?_
  have A0 := hideit (RowAt.new w 32 (yv K) 31)
  have XB : Ext w (w.alloc (.cells (row 32 (yv K)).toArray 31)) := (Below.refl _ _).alloc (Nat.le_refl _) _
  have AE := hideit (Ext.trans hE.out (XB))
  have AB := hideit (hE.out.size)
  clear XB
  refine wpList_to rfl (.pointer (some ⟨w.heap.size, 0, none⟩)) (w.alloc (.cells (row 32 (yv K)).toArray 31)) (by simp [go_sem]) ?_
  simp only [zp0, zp1, zp2, zp3]
  generalize w.alloc (.cells (row 32 (yv K)).toArray 31) = x1 at A0 AE ⊢
  obtain ⟨c3, ec3⟩ : ∃ b, b = w.heap.size := ⟨_, rfl⟩
  have ABc3 : Hid (w.heap.size ≤ c3) := by rw [ec3]; exact AB.out
  clear AB
  rw [← ec3] at A0  ⊢
  clear ec3
  have Hc3 := A0
  clear A0
  replace hE := AE
  clear AE
  have A0 := hideit (RowAt.new x1 24 (hdv h) 37)
  have XB : Ext x1 (x1.alloc (.cells (row 24 (hdv h)).toArray 37)) := (Below.refl _ _).alloc (Nat.le_refl _) _
  have A1 := hideit (Hc3.out.carry XB)
  have AE := hideit (Ext.trans hE.out (XB))
  have AB := hideit (hE.out.size)
  have D0 : Hid (c3 ≠ x1.heap.size) := Nat.ne_of_lt Hc3.out.2.2
  clear XB
  refine wpList_to rfl (.pointer (some ⟨x1.heap.size, 0, none⟩)) (x1.alloc (.cells (row 24 (hdv h)).toArray 37)) (by simp [go_sem]) ?_
  simp only [zp0, zp1, zp2, zp3]
  generalize x1.alloc (.cells (row 24 (hdv h)).toArray 37) = x2 at A0 A1 AE ⊢
  obtain ⟨c4, ec4⟩ : ∃ b, b = x1.heap.size := ⟨_, rfl⟩
  have ABc4 : Hid (w.heap.size ≤ c4) := by rw [ec4]; exact AB.out
  clear AB
  rw [← ec4] at A0 D0 ⊢
  clear ec4
  have Hc4 := A0
  clear A0
  replace Hc3 := A1
  clear A1
  replace hE := AE
  clear AE
  have Dc4_0 := D0
  clear D0
  have A0 := hideit (RowAt.new x2 35 (rtV g false (s : Int) H) 39)
  have XB : Ext x2 (x2.alloc (.cells (row 35 (rtV g false (s : Int) H)).toArray 39)) := (Below.refl _ _).alloc (Nat.le_refl _) _
  have A1 := hideit (Hc3.out.carry XB)
  have A2 := hideit (Hc4.out.carry XB)
  have AE := hideit (Ext.trans hE.out (XB))
  have AB := hideit (hE.out.size)
  have D0 : Hid (c3 ≠ x2.heap.size) := Nat.ne_of_lt Hc3.out.2.2
  have D1 : Hid (c4 ≠ x2.heap.size) := Nat.ne_of_lt Hc4.out.2.2
  clear XB
  refine wpList_to rfl (.pointer (some ⟨x2.heap.size, 0, none⟩)) (x2.alloc (.cells (row 35 (rtV g false (s : Int) H)).toArray 39)) (by simp [go_sem]) ?_
  simp only [zp0, zp1, zp2, zp3]
  generalize x2.alloc (.cells (row 35 (rtV g false (s : Int) H)).toArray 39) = x3 at A0 A1 A2 AE ⊢
  obtain ⟨c5, ec5⟩ : ∃ b, b = x2.heap.size := ⟨_, rfl⟩
  have ABc5 : Hid (w.heap.size ≤ c5) := by rw [ec5]; exact AB.out
  clear AB
  rw [← ec5] at A0 D0 D1 ⊢
  clear ec5
  have Hc5 := A0
  clear A0
  replace Hc3 := A1
  clear A1
  replace Hc4 := A2
  clear A2
  replace hE := AE
  clear AE
  have Dc5_0 := D0
  clear D0
  have Dc5_1 := D1
  clear D1
  refine xm [some (.slice none 0 0), some (.int .i64 0)] (by kernel_rfl) (by simp [xr, go_sem]) ?_
  simp only [xw, p0, p1, p2, p3]
  go_upto_region 1 with (fail)
  refine wp_region_lit ?_
  refine wpList_run rfl (.agg (row 24 (hdv h)).toArray) (xload 37 (.tmp 4) rfl c4 0 24 _ rfl Hc4.out.range Tryd.underlying37 rfl inf37) ?_
  simp only [zp0, zp1, zp2, zp3]
  refine wpList_call rfl (by simp [go_sem]) ((rcheck_ok h x3 hk).mono ?_)
  rintro e y2 ⟨rfl, hX2⟩
  refine ⟨_, rfl, ?_⟩
  simp only [zp0, zp1, zp2, zp3]
  replace Hc3 := hideit (Hc3.out.carry hX2)
  replace Hc4 := hideit (Hc4.out.carry hX2)
  replace Hc5 := hideit (Hc5.out.carry hX2)
  replace hE := hideit (Ext.trans hE.out (hX2))
  clear hX2
  have m4 : y2.cell? ⟨c5, 2, none⟩ = some (.int .i64 (s : Int)) := Hc5.out.1 2 (by decide)
  have m6 : y2.cell? ⟨c4, 1, none⟩ = some (.int .i64 (h.se)) := Hc4.out.1 1 (by decide)
  have m7 : y2.cell? ⟨c5, 1, none⟩ = some (.bool false) := Hc5.out.1 1 (by decide)
  refine xm [some (.bool false), some (.bool false), some (.pointer (some ⟨c5, 2, none⟩)), some (.int .i64 (s : Int)), some (.bool false), some (.bool false), some (.bool false), some (.pointer (some ⟨c5, 2, none⟩)), some (.int .i64 (s : Int)), some (.pointer (some ⟨c4, 1, none⟩)), some (.int .i64 (h.se)), some (.bool false), some (.bool false), some (.bool false), some (.pointer (some ⟨c5, 1, none⟩)), some (.bool false), some (.bool true), some (.bool true), some (.pointer (some ⟨c5, 2, none⟩)), some (.int .i64 (s : Int)), some (.bool false), some (.bool false), some (.bool false)] (by kernel_rfl) (by simp [xr, go_sem, m4, m6, hs22, m7, hs3.out]) ?_
  simp only [xw, p0, p1, p2, p3]
  clear m4
  clear m6
  clear m7
  go_upto_region 3 with (fail)
  refine wp_region_lit ?_
  refine wpList_to rfl (.slice (some ⟨y2.heap.size, 0, none⟩) 4 4) (y2.alloc (.cells #[.int .u8 82, .int .u8 79, .int .u8 79, .int .u8 84] 5)) (by simp [go_sem]) ?_
  simp only [zp0, zp1, zp2, zp3]
  obtain ⟨x9, hr, hB, hX⟩ := constB y2 #[.int .u8 82, .int .u8 79, .int .u8 79, .int .u8 84] 4 (rootF) (fun j hj => by rcases (by omega : j = 0 ∨ j = 1 ∨ j = 2 ∨ j = 3) with rfl | rfl | rfl | rfl <;> rfl)
  refine wpList_to rfl (.slice (some ⟨y2.heap.size, 0, none⟩) 4 4) x9 (by simp [go_sem, hr]) ?_
  simp only [zp0, zp1, zp2, zp3]
  obtain ⟨a1, ea1⟩ : ∃ a : Addr, a = ⟨y2.heap.size, 0, none⟩ := ⟨_, rfl⟩
  rw [← ea1] at hB ⊢
  clear ea1 hr
  have hb1 := hideit hB
  clear hB
  replace Hc3 := hideit (Hc3.out.carry hX)
  replace Hc4 := hideit (Hc4.out.carry hX)
  replace Hc5 := hideit (Hc5.out.carry hX)
  replace hE := hideit (Ext.trans hE.out (hX))
  clear hX
  refine xm [some (.slice (some a1) 4 4)] (by kernel_rfl) (by simp [xr, go_sem]) ?_
  simp only [xw, p0, p1, p2, p3]
  go_upto_region 4 with (fail)
  refine wp_region_lit ?_
  refine xm [some (.int .i64 0)] (by kernel_rfl) (by simp [xr, go_sem]) ?_
  simp only [xw, p0, p1, p2, p3]
  go_wp2
  go_loopw [8, 9] (fun v t X => ∃ (i : Nat) (u : Value), i ≤ 8 ∧ u = v ∧ t = .int .i64 (i : Int) ∧ RS x9 g i u X) (fun _ t _ => 8 - (intOf t).toNat)
  case atStart => exact ⟨0, _, by omega, rfl, rfl, Ext.refl _, .inl ⟨a1, rfl, rfl, hb1.out⟩⟩
  case round =>
    obtain ⟨i, u8, hi5, hu8, rfl, hR⟩ := hrel
    subst hu8
    replace hR := hideit hR
    have rE := hideit hR.out.1
    have r5 := hideit (Hc5.out.carry rE.out)
    by_cases hi2 : (i : Int) < 8
    · have hi := hideit hi2
      have hin : Hid (i < 8) := by show i < 8; omega
      have ek : IntKind.i64.wrap ((i : Int) + 1) = ((i + 1 : Nat) : Int) := by rw [IntKind.wrap_i64]; omega
      have hmul : Hid (IntKind.i64.wrap (8 * (i : Int)) = 8 * (i : Int)) := by show IntKind.i64.wrap (8 * (i : Int)) = _; rw [IntKind.wrap_i64]; omega
      have hq8 := hideit (by_at g i)
      have hsh : Hid ((g.toNat : Int) / 2 ^ (8 * (i : Int)).toNat = ((g.toNat / 2 ^ (8 * i) : Nat) : Int)) := by
        show (g.toNat : Int) / 2 ^ (8 * (i : Int)).toNat = _
        rw [show (8 * (i : Int)).toNat = 8 * i by omega, Int.natCast_ediv, Int.natCast_pow]
        rfl
      obtain ⟨q, hq⟩ : ∃ q, q = g.toNat / 2 ^ (8 * i) := ⟨_, rfl⟩
      rw [← hq] at hq8 hsh
      have hsr : Hid (Op.shift .shr .u64 (g.toNat : Int) .i64 (8 * (i : Int)) = pure (.int .u64 (q : Int))) := by
        have h0 := hin.out
        have h1 : (0 : Int) ≤ 8 * (i : Int) := by omega
        have h2 : 8 * (i : Int) ≤ 64 := by omega
        show _ = _
        rw [shift_shr_u64 .i64 _ _ h1 h2, hsh.out]
      clear hq hi2 hi5
      go_upto_region 5 with (fail)
      refine wp_region_lit ?_
      refine xm [some (.int .i64 (i : Int)), some (.bool true)] (by kernel_rfl) (by simp [xr, go_sem, hi.out]) ?_
      simp only [xw, p0, p1, p2, p3]
      go_upto_region 7 with (fail)
      refine wp_region_lit ?_
      have m10 : wr.cell? ⟨c5, 0, none⟩ = some (.int .u64 ((g.toNat : Int))) := r5.out.1 0 (by decide)
      refine xm [some (u8), some (.pointer (some ⟨c5, 0, none⟩)), some (.int .u64 ((g.toNat : Int))), some (.int .i64 (i : Int)), some (.int .i64 (8 * (i : Int))), some (.int .u64 (q : Int)), some (.int .u8 ((byB g i).toNat : Int))] (by kernel_rfl) (by simp [xr, go_sem, m10, hmul.out, hsr.out, hq8.out]) ?_
      simp only [xw, p0, p1, p2, p3]
      clear m10
      have hX : Ext wr (wr.alloc (.cells #[.int .u8 ((byB g i).toNat : Int)] 5)) := (Below.refl _ _).alloc (Nat.le_refl _) _
      obtain ⟨v9, Y9, hrun, hR9⟩ := rs_app 22 (hR.out.ext hX) hin.out (few_bv (few_one wr (byB g i)))
      refine wpList_to rfl (.slice (some ⟨wr.heap.size, 0, none⟩) 1 1) (wr.alloc (.cells #[.int .u8 ((byB g i).toNat : Int)] 5)) (by simp [go_sem]) ?_
      simp only [zp0, zp1, zp2, zp3]
      refine wpList_to rfl v9 Y9 (exec_append (.tmp 43) (.tmp 50) 22 22 rfl _ _ _ rfl rfl hrun) ?_
      simp only [zp0, zp1, zp2, zp3]
      replace hR9 := hideit hR9
      clear hrun hX hR rE r5
      refine xm [some (v9)] (by kernel_rfl) (by simp [xr, go_sem]) ?_
      simp only [xw, p0, p1, p2, p3]
      go_upto_region 6 with (fail)
      refine wp_region_lit ?_
      refine xm [some (.int .i64 (i : Int)), some (.int .i64 ((i + 1 : Nat) : Int)), some (.int .i64 ((i + 1 : Nat) : Int))] (by kernel_rfl) (by simp [xr, go_sem, ek]) ?_
      simp only [xw, p0, p1, p2, p3]
      go_wp2
      go_round
      case rel => exact ⟨i + 1, _, by have := hin.out; omega, rfl, rfl, hR9.out⟩
      case measure => have := hin.out; simp [intOf]; omega
    · have hi := hideit hi2
      have hge : Hid (8 ≤ (i : Int)) := by show 8 ≤ (i : Int); omega
      have hG : Hid (GB x9 u8 12 (rc12 g) wr) := by
        rcases hR.out.2 with ⟨a, h0, _⟩ | h2
        · omega
        · exact h2.congr (by omega) fun _ _ => rfl
      clear hi2 hi5 hR
      go_upto_region 5 with (fail)
      refine wp_region_lit ?_
      refine xm [some (.int .i64 (i : Int)), some (.bool false)] (by kernel_rfl) (by simp [xr, go_sem, hge.out]) ?_
      simp only [xw, p0, p1, p2, p3]
      go_upto_region 8 with (fail)
      refine wp_region_lit ?_
      refine xm [some (.int .u8 0)] (by kernel_rfl) (by simp [xr, go_sem]) ?_
      simp only [xw, p0, p1, p2, p3]
      go_upto_region 9 with (fail)
      refine wp_region_lit ?_
      have m10 : wr.cell? ⟨c5, 1, none⟩ = some (.bool false) := r5.out.1 1 (by decide)
      refine xm [some (.pointer (some ⟨c5, 1, none⟩)), some (.bool false)] (by kernel_rfl) (by simp [xr, go_sem, m10]) ?_
      simp only [xw, p0, p1, p2, p3]
      clear m10
      have hW : GB x9 u8 12 (rc12 g) wr.drew := hG.out.ext (Ext.refl _).draw
      clear hG rE r5
      go_upto_region 11 with (fail)
      refine wp_region_ladj Ext (MvS x9.heap.size) (fun X => Ext x9 X) (mk11 0#8 s) [] [] [(0, 0), (0, 1), (0, 4), (0, 5), (0, 8), (0, 9), (2, 2), (1, 3), (2, 6), (1, 7), (1, 10), (0, 11)] (by kernel_rfl) (by kernel_rfl) (by decide +kernel) (by decide +kernel) (by decide +kernel) (by decide +kernel) (fun _ _ h => mvs_ext h) (mk11_cl _ _ _) (fun X => GB x9 u8 12 (rc12 g) X) (fun _ h => h.2) (fun _ _ h k => h.ext k) hW ?_
      clear hW
      refine wpJ_f _ (u8) rfl rfl (fun X hX => by simp [go_sem]) ?_
      simp only [List.getElem_toArray, List.getElem_cons_zero, Act.put, List.setIfInBounds_toArray, List.set_cons_zero, List.set_cons_succ]
      refine wpJ_f _ (.int .u8 0) rfl rfl (fun X hX => by simp [go_sem]) ?_
      simp only [zp4, zp5, zp6, zp0, zp1, zp2, zp3]
      refine wpJ_f _ (.pointer (some ⟨c5, 2, none⟩)) rfl rfl (fun X hX => by simp [go_sem]) ?_
      simp only [zp4, zp5, zp6, zp0, zp1, zp2, zp3]
      refine wpJ_f _ (.int .i64 (s : Int)) rfl rfl (fun X hX => by
        have q : X.cell? ⟨c5, 2, none⟩ = some (.int .i64 (s : Int)) := (Hc5.out.carry hX).1 2 (by decide)
        simp [go_sem, q]) ?_
      simp only [zp4, zp5, zp6, zp0, zp1, zp2, zp3]
      refine wpJ_f _ (.pointer (some ⟨c5, 3, none⟩)) rfl rfl (fun X hX => by simp [go_sem]) ?_
      simp only [zp4, zp5, zp6, zp0, zp1, zp2, zp3]
      refine wpJ_f _ (.slice (some ⟨c5, 3, none⟩) 32 32) rfl rfl (fun X hX => by simp [go_sem]) ?_
      simp only [zp4, zp5, zp6, zp0, zp1, zp2, zp3]
      refine wpJ_m _ rfl rfl (fun X hX => ⟨_, X.alloc (.cells #[.int .u8 0] 5), by simp [go_sem], few_one X 0#8, (Below.refl _ _).alloc (Nat.le_refl _) _⟩) ?_
      rintro v2 _
      simp only [zp4, zp5, zp6, zp0, zp1, zp2, zp3]
      refine wpJ_to _ rfl rfl fun X hX => ?_
      obtain ⟨v3, Y3, hrun, hG3, hm3⟩ := gb_app 22 hX.1 (.inl (by decide)) v2 1 _ (few_bv (show few 1 (fun _ => 0#8) v2 X from hX.2)) (by decide) (by decide)
      refine ⟨v3, Y3, exec_append (.tmp 54) (.tmp 56) 22 22 rfl _ _ _ rfl rfl hrun, fun Z => GB x9 v3 13 (catF (rc12 g) 12 fun _ => 0#8) Z, hG3, .inr (.inr ⟨fun Z hZ => hZ.2, hm3, fun _ _ hA k => hA.ext k⟩), ?_⟩
      clear hrun hG3 hm3 hX
      simp only [zp4, zp5, zp6, zp0, zp1, zp2, zp3]
      refine wpJ_mcall _ rfl rfl (fun X hX => by simp [go_sem]) (fun X hX => (four_any s hs4 X).mono ?_) ?_
      · rintro e9 X9 ⟨v9, rfl, hf, hE9⟩
        exact ⟨v9, rfl, hf, hE9⟩
      rintro v6 _
      simp only [zp4, zp5, zp6, zp0, zp1, zp2, zp3]
      refine wpJ_to _ rfl rfl fun X hX => ?_
      obtain ⟨v7, Y7, hrun, hG7, hm7⟩ := gb_app 22 hX.1 (.inl (by decide)) v6 4 _ (few_bv (show few 4 (numB s) v6 X from hX.2)) (by decide) (by decide)
      refine ⟨v7, Y7, exec_append (.tmp 57) (.tmp 60) 22 22 rfl _ _ _ rfl rfl hrun, fun Z => GB x9 v7 17 (catF (catF (rc12 g) 12 fun _ => 0#8) 13 (numB s)) Z, hG7, .inr (.inr ⟨fun Z hZ => hZ.2, hm7, fun _ _ hA k => hA.ext k⟩), ?_⟩
      clear hrun hG7 hm7 hX
      simp only [zp4, zp5, zp6, zp0, zp1, zp2, zp3]
      refine wpJ_to _ rfl rfl fun X hX => ?_
      obtain ⟨v10, Y10, hrun, hG10, hm10⟩ := gb_app 22 hX (.inl (by decide)) (.slice (some ⟨c5, 3, none⟩) 32 32) 32 H (.inr ⟨⟨c5, 3, none⟩, 32, rfl, Nat.le_refl _, rt_hash (Hc5.out.carry hX.2)⟩) (by decide) (by decide)
      refine ⟨v10, Y10, exec_append (.tmp 61) (.tmp 63) 22 22 rfl _ _ _ rfl rfl hrun, fun Z => GB x9 v10 49 (catF (catF (catF (rc12 g) 12 fun _ => 0#8) 13 (numB s)) 17 H) Z, hG10, .inr (.inr ⟨fun Z hZ => hZ.2, hm10, fun _ _ hA k => hA.ext k⟩), ?_⟩
      clear hrun hG10 hm10 hX
      simp only [zp4, zp5, zp6, zp0, zp1, zp2, zp3]
      refine wpJ_f _ (v10) rfl rfl (fun X hX => by simp [go_sem]) ?_
      simp only [zp4, zp5, zp6, zp0, zp1, zp2, zp3]
      refine wpJ_nil fun Y hY => ?_
      have hG := hideit (hY.congr (g := rbF g false s H) rfl fun j _ => rb49 g false s H 0#8 (by decide) j)
      clear hY
      obtain ⟨W, hW⟩ : ∃ W, W = Y.drew := ⟨_, rfl⟩
      have hYW : Ext Y W := by rw [hW]; exact (Ext.refl _).draw
      have Q3 := hideit (Hc3.out.carry (Ext.trans hG.out.2 hYW))
      have Q4 := hideit (Hc4.out.carry (Ext.trans hG.out.2 hYW))
      replace hG := hideit (hG.out.ext hYW)
      clear hYW
      obtain ⟨n, hn⟩ : ∃ n : Nat, n = h.se.toNat := ⟨_, rfl⟩
      have hnl : n < 4294967296 := by have := hk.1; unfold okA at this; omega
      have hsn : h.se = (n : Int) := by have := hk.1; unfold okA at this; omega
      go_upto_region 12 with (fail)
      refine wp_region_ladj Ext (MvS W.heap.size) (fun X => Ext W X) (mk12 W.heap.size n) [13] [] [(0, 0), (0, 2), (0, 4), (0, 5), (0, 7), (0, 8), (1, 1), (1, 3), (1, 6), (2, 9), (1, 10), (1, 11), (2, 12), (1, 13)] (by kernel_rfl) (by kernel_rfl) (by decide +kernel) (by decide +kernel) (by decide +kernel) (by decide +kernel) (fun _ _ h => mvs_ext h) (mk12_cl _ _) (fun X => Ext W X) (fun _ h => h) (fun _ _ h k => Ext.trans h k) (by rw [← hW]; exact Ext.refl _) ?_
      refine wpJ_f _ (.slice (some ⟨c3, 0, none⟩) 32 32) rfl rfl (fun X hX => by simp [go_sem]) ?_
      simp only [List.getElem_toArray, List.getElem_cons_zero, Act.put, List.setIfInBounds_toArray, List.set_cons_zero, List.set_cons_succ]
      refine wpJ_f _ (v10) rfl rfl (fun X hX => by simp [go_sem]) ?_
      simp only [zp4, zp5, zp6, zp0, zp1, zp2, zp3]
      refine wpJ_f _ (.pointer (some ⟨c4, 8, none⟩)) rfl rfl (fun X hX => by simp [go_sem]) ?_
      simp only [zp4, zp5, zp6, zp0, zp1, zp2, zp3]
      refine wpJ_f _ (.slice (some ⟨c4, 8, none⟩) 16 16) rfl rfl (fun X hX => by simp [go_sem]) ?_
      simp only [zp4, zp5, zp6, zp0, zp1, zp2, zp3]
      refine wpJ_f _ (.pointer (some ⟨c4, 1, none⟩)) rfl rfl (fun X hX => by simp [go_sem]) ?_
      simp only [zp4, zp5, zp6, zp0, zp1, zp2, zp3]
      refine wpJ_f _ (.int .i64 (n : Int)) rfl rfl (fun X hX => by
        have q : X.cell? ⟨c4, 1, none⟩ = some (.int .i64 (n : Int)) := by rw [← hsn]; exact (Q4.out.carry hX).1 1 (by decide)
        simp [go_sem, q]) ?_
      simp only [zp4, zp5, zp6, zp0, zp1, zp2, zp3]
      refine wpJ_to _ rfl rfl fun X hX => ?_
      have hE1 := GB.empty W hX (fun _ => 0#8)
      obtain ⟨b1, hb1'⟩ : ∃ b, b = X.heap.size := ⟨_, rfl⟩
      rw [← hb1'] at hE1
      refine ⟨.slice (some ⟨b1, 0, none⟩) 0 0, X.alloc (.cells #[] 5), by rw [hb1']; simp [go_sem], fun Z => GB W (.slice (some ⟨b1, 0, none⟩) 0 0) 0 (fun _ => 0#8) Z, hE1, .inr (.inr ⟨fun Z hZ => hZ.2, mvs_ext ((Below.refl _ _).alloc (Nat.le_refl _) _), fun _ _ hA k => hA.ext k⟩), ?_⟩
      clear hE1 hb1' hX
      simp only [zp4, zp5, zp6, zp0, zp1, zp2, zp3]
      refine wpJ_to _ rfl rfl fun X hX => ?_
      obtain ⟨v3', Y3', hrun, hG3, hm3⟩ := gb_app 22 hX (.inr ⟨_, rfl⟩) v10 49 (rbF g false s H) (hG.out.bv.ext hX.2) (by decide) (by decide)
      refine ⟨v3', Y3', exec_append (.tmp 66) (.tmp 67) 22 22 rfl _ _ _ rfl rfl hrun, fun Z => GB W v3' 49 (catF (fun _ => 0#8) 0 (rbF g false s H)) Z, hG3, .inr (.inr ⟨fun Z hZ => hZ.2, hm3, fun _ _ hA k => hA.ext k⟩), ?_⟩
      clear hrun hG3 hm3 hX
      simp only [zp4, zp5, zp6, zp0, zp1, zp2, zp3]
      refine wpJ_to _ rfl rfl fun X hX => ?_
      obtain ⟨v6', Y6', hrun, hG6, hm6⟩ := gb_app 22 hX (.inl (by decide)) (.slice (some ⟨c4, 8, none⟩) 16 16) 16 h.nm (.inr ⟨⟨c4, 8, none⟩, 16, rfl, Nat.le_refl _, hd_name (Q4.out.carry hX.2)⟩) (by decide) (by decide)
      refine ⟨v6', Y6', exec_append (.tmp 68) (.tmp 70) 22 22 rfl _ _ _ rfl rfl hrun, fun Z => GB W v6' 65 (catF (catF (fun _ => 0#8) 0 (rbF g false s H)) 49 h.nm) Z, hG6, .inr (.inr ⟨fun Z hZ => hZ.2, hm6, fun _ _ hA k => hA.ext k⟩), ?_⟩
      clear hrun hG6 hm6 hX
      simp only [zp4, zp5, zp6, zp0, zp1, zp2, zp3]
      refine wpJ_mcall _ rfl rfl (fun X hX => by simp [go_sem]) (fun X hX => (four_any n hnl X).mono ?_) ?_
      · rintro e9 X9 ⟨v9, rfl, hf, hE9⟩
        exact ⟨v9, rfl, hf, hE9⟩
      rintro v9' _
      simp only [zp4, zp5, zp6, zp0, zp1, zp2, zp3]
      refine wpJ_to _ rfl rfl fun X hX => ?_
      obtain ⟨va, Ya, hrun, hGa, hma⟩ := gb_app 22 hX.1 (.inl (by decide)) v9' 4 _ (few_bv (show few 4 (numB n) v9' X from hX.2)) (by decide) (by decide)
      refine ⟨va, Ya, exec_append (.tmp 71) (.tmp 74) 22 22 rfl _ _ _ rfl rfl hrun, fun Z => GB W va 69 (catF (catF (catF (fun _ => 0#8) 0 (rbF g false s H)) 49 h.nm) 65 (numB n)) Z, hGa, .inr (.inr ⟨fun Z hZ => hZ.2, hma, fun _ _ hA k => hA.ext k⟩), ?_⟩
      clear hrun hGa hma hX
      simp only [zp4, zp5, zp6, zp0, zp1, zp2, zp3]
      refine wpJ_call _ rfl rfl (fun X hX => by simp [go_sem]) (fun X hX => (rTag_any (.slice (some ⟨c3, 0, none⟩) 32 32) va 32 69 K _ X (.inr ⟨⟨c3, 0, none⟩, 32, rfl, Nat.le_refl _, RowAt.lie (Q3.out.carry hX.2) 32 (Nat.le_refl _)⟩) hX.bv (by decide) (by decide)).mono ?_)
      rintro e9 X9 ⟨rfl, hX9⟩
      have eRG : tagF 32 K (catF (catF (catF (fun _ => 0#8) 0 (rbF g false s H)) 49 h.nm) 65 (numB n)) 69 = rgF K h g false s H := by rw [hn]; rfl
      rw [eRG]
      refine ⟨_, rfl, fun Z => Ext W Z, Ext.trans hX.2 hX9, .inr (.inr ⟨fun Z hZ => hZ, mvs_ext hX9, fun _ _ hA k => Ext.trans hA k⟩), ?_⟩
      clear hX9 hX eRG
      simp only [zp4, zp5, zp6, zp0, zp1, zp2, zp3]
      refine wpJ_m _ rfl rfl (fun X hX => ⟨.pointer (some ⟨X.heap.size, 0, none⟩), X.alloc (.cells (row 32 (yv fun _ => 0#8)).toArray 31), xalloc 31 _ rfl (zero24 _), ⟨X.heap.size, rfl, Below.size hX, heap_new _ _ _⟩, (Below.refl _ _).alloc (Nat.le_refl _) _⟩) ?_
      rintro vb ⟨_, -, p, rfl, -⟩
      simp only [zp4, zp5, zp6, zp0, zp1, zp2, zp3]
      refine wpJ_st _ rfl rfl fun X hX => ?_
      obtain ⟨EX, p', f5, hp, hm⟩ := hX
      injection f5 with f5
      injection f5 with f5
      injection f5 with f5
      subst f5
      have N0 := hideit ((row_heap hm).cells (g' := yv (rgF K h g false s H)))
      have NE := hideit (below_setCells p hp (row 32 (yv (rgF K h g false s H))) 0 _ EX)
      refine ⟨X.setCells p 0 (row 32 (yv (rgF K h g false s H))), xstore 31 (.tmp 11) (.tmp 76) rfl p 32 _ (yv (rgF K h g false s H)) rfl rfl (row_heap hm) inf31 (fun _ _ => rfl), fun Y => Y = X.setCells p 0 (row 32 (yv (rgF K h g false s H))), rfl, .inl (by simp), ?_⟩
      simp only [List.getElem_toArray, List.getElem_cons_zero, List.getElem_cons_succ, Act.put]
      refine wpJ_nil fun Y2 hY => ?_
      rw [← hY] at N0 NE
      clear hY hm EX
      replace hG := hideit (hG.out.ext NE.out)
      clear NE Q3 Q4 hsn hn hnl hW
      go_upto_region 13 with (fail)
      refine wp_region_lit ?_
      refine xm [some (v10), some (.slice (some ⟨p, 0, none⟩) 32 32)] (by kernel_rfl) (by simp [xr, go_sem]) ?_
      simp only [xw, p0, p1, p2, p3]
      refine wpList_gb rfl (.tmp 77) (.tmp 78) rfl rfl hG.out (.slice (some ⟨p, 0, none⟩) 32 32) 32 (rgF K h g false s H) rfl (.inr ⟨⟨p, 0, none⟩, 32, rfl, Nat.le_refl _, RowAt.lie N0.out 32 (Nat.le_refl _)⟩) (by decide) ?_
      intro vc Xc hGc
      simp only [zp0, zp1, zp2, zp3]
      obtain ⟨oc, cc, rfl⟩ := hGc.form
      replace hGc := hideit hGc
      clear hG N0
      refine xm [some (.slice oc (49 + 32) cc)] (by kernel_rfl) (by simp [xr, go_sem]) ?_
      simp only [xw, p0, p1, p2, p3]
      go_upto_region 14 with (fail)
      refine wp_region_lit ?_
      refine xm [some (.slice oc (49 + 32) cc), some (.slice oc (49 + 32) cc), some (.int .i64 81), some (.int .i64 431)] (by kernel_rfl) (by simp [xr, go_sem, w431]) ?_
      simp only [xw, p0, p1, p2, p3]
      obtain ⟨i5, z1, z2, z3, z4⟩ := ty5
      refine wpList_zeros (P := Tryd.prog) (n := 49 + 32) (base := x9.heap.size) (g := yv (catF (rbF g false s H) 49 (rgF K h g false s H))) (f := yv (padF (catF (rbF g false s H) 49 (rgF K h g false s H)) 81)) Xc (.int .u8 0) i5 _ Tryd.underlying22 Tryd.underlying3 z1 z2 z3 z4 rfl rfl rfl (.tmp 80) (.tmp 83) rfl rfl hGc.out.1 (by decide) 431 (by decide) rfl (fun j hj => by simp only [yv, padF, if_pos (show j < 81 by omega)]) (fun j hj => by simp only [yv, padF, if_neg (show ¬ 49 + 32 + j < 81 by omega)]; rfl) (by decide) (Below.size hGc.out.2) ?_
      intro vd Xd hOd hgd
      have hE9 := hideit (Ext.trans hE.out (grown_ext hGc.out.2 hgd fun k hk => (hGc.out.1.lt k hk).1))
      replace hOd := hideit (hOd.bv.congr fun j _ => rk_cell2 K h g false s H j)
      clear hGc hgd z1 z2 z3 z4
      simp only [zp0, zp1, zp2, zp3]
      refine xm [some (vd), some (.int .i64 0)] (by kernel_rfl) (by simp [xr, go_sem]) ?_
      simp only [xw, p0, p1, p2, p3]
      go_wp2
      refine bodyPost_ret (res2 rfl _ _ _) rfl ?_
      exact ⟨_, rfl, hOd.out, hE9.out⟩
theorem rrb_ok (K : Nat → BitVec 8) (h : Hd) (g : BitVec 64) (b : Bool) (s : Nat) (H : Nat → BitVec 8) (w : World) (hk : okH h) (hm : mbB h b (s : Int) = true) (hs4 : s < 4294967296) : Calls Tryd.prog 13 #[.agg (row 32 (yv K)).toArray, .agg (row 24 (hdv h)).toArray, .agg (row 35 (rtV g b (s : Int) H)).toArray] w fun e w' => ∃ v, e = .returned (.tuple #[v, .int .i64 0]) ∧ BV v 512 (rkF K h g b s H) w' ∧ Ext w w' := by
  have hse : 1 ≤ h.se := by have := hk.1; unfold okA at this; omega
  unfold mbB at hm
  cases b
  · rw [if_neg (by decide)] at hm
    have := of_decide_eq_true hm
    exact rrb_false K h g s H w hk hs4 (by omega) (by omega)
  · rw [if_pos rfl] at hm
    exact rrb_true K h g s H w hk hs4 (of_decide_eq_true hm).2
end Go.Proofs.YtgjabfjkokpkiaaDoor
namespace Go.Proofs.YtgjabfjkokpkiaaDoor
set_option linter.unusedVariables false
set_option maxRecDepth 20000
def fk {α : Type} (n : Nat) (k : Nat → α) : α := match n with | 0 => k 0 | m + 1 => k (m + 1)
theorem fk_eq {α : Type} (n : Nat) (k : Nat → α) : fk n k = k n := by cases n <;> rfl
def un (w P i : Nat) : BitVec w := BitVec.ofNat w (P >>> (w * i))
def pkW (w : Nat) (g : Nat → BitVec w) : Nat → Nat
  | 0 => 0
  | n + 1 => fk (pkW w g n) fun a => fk (g n).toNat fun b => a + (b <<< (w * n))
def Rp (w n P : Nat) (g : Nat → BitVec w) : Prop := P < 2 ^ (w * n) ∧ ∀ i, i < n → un w P i = g i
theorem un_lo {w n P Q i : Nat} (hi : i < n) : un w (P + Q <<< (w * n)) i = un w P i := by
  apply BitVec.eq_of_toNat_eq
  unfold un
  rw [BitVec.toNat_ofNat, BitVec.toNat_ofNat, Nat.shiftRight_eq_div_pow, Nat.shiftRight_eq_div_pow, Nat.shiftLeft_eq]
  have h1 : w * n = w * i + w * (n - i - 1) + w := by rw [← Nat.mul_add, ← Nat.mul_succ]; congr 1; omega
  have h2 : Q * 2 ^ (w * n) = Q * 2 ^ (w * (n - i - 1)) * 2 ^ w * 2 ^ (w * i) := by rw [h1, Nat.pow_add, Nat.pow_add]; simp only [Nat.mul_comm, Nat.mul_left_comm]
  rw [h2, Nat.add_mul_div_right _ _ (Nat.two_pow_pos _), Nat.add_mul_mod_self_right]
theorem un_hi {w n P Q i : Nat} (hP : P < 2 ^ (w * n)) : un w (P + Q <<< (w * n)) (n + i) = un w Q i := by
  apply BitVec.eq_of_toNat_eq
  unfold un
  rw [BitVec.toNat_ofNat, BitVec.toNat_ofNat, Nat.shiftRight_eq_div_pow, Nat.shiftRight_eq_div_pow, Nat.shiftLeft_eq, Nat.mul_add, Nat.pow_add, ← Nat.div_div_eq_div_mul, Nat.add_mul_div_right _ _ (Nat.two_pow_pos _), Nat.div_eq_of_lt hP, Nat.zero_add]
theorem Rp.app {w n m P Q : Nat} {g h : Nat → BitVec w} (hP : Rp w n P g) (hQ : Rp w m Q h) : Rp w (n + m) (P + Q <<< (w * n)) fun i => if i < n then g i else h (i - n) := by
  refine ⟨?_, fun i hi => ?_⟩
  · rw [Nat.shiftLeft_eq, Nat.mul_add, Nat.pow_add]
    have h1 := hP.1
    have h2 : (Q + 1) * 2 ^ (w * n) ≤ 2 ^ (w * m) * 2 ^ (w * n) := Nat.mul_le_mul_right _ hQ.1
    rw [Nat.add_mul, Nat.one_mul] at h2
    rw [Nat.mul_comm (2 ^ (w * n))]
    omega
  · show _ = if i < n then g i else h (i - n)
    by_cases e : i < n
    · rw [if_pos e, un_lo e, hP.2 i e]
    · rw [if_neg e, show i = n + (i - n) by omega, un_hi hP.1, hQ.2 _ (by omega)]
      congr 1
      omega
theorem Rp.congr {w n P : Nat} {g h : Nat → BitVec w} (hP : Rp w n P g) (k : ∀ i, i < n → g i = h i) : Rp w n P h := ⟨hP.1, fun i hi => (hP.2 i hi).trans (k i hi)⟩
theorem rp_one {w : Nat} (x : BitVec w) : Rp w 1 x.toNat fun _ => x := ⟨by rw [Nat.mul_one]; exact x.isLt, fun i hi => by
  obtain rfl : i = 0 := by omega
  unfold un
  rw [Nat.mul_zero, Nat.shiftRight_zero, BitVec.ofNat_toNat, BitVec.setWidth_eq]⟩
theorem pk_rp (w : Nat) (g : Nat → BitVec w) : ∀ n, Rp w n (pkW w g n) g
  | 0 => ⟨by show 0 < _; exact Nat.two_pow_pos _, fun i hi => by omega⟩
  | n + 1 => by
    show Rp w (n + 1) (fk (pkW w g n) fun a => fk (g n).toNat fun b => a + (b <<< (w * n))) g
    rw [fk_eq, fk_eq]
    refine ((pk_rp w g n).app (rp_one (g n))).congr fun i hi => ?_
    by_cases e : i < n
    · rw [if_pos e]
    · rw [if_neg e, show i = n by omega]
theorem pk_at {w : Nat} {g : Nat → BitVec w} {n i : Nat} (hi : i < n) : un w (pkW w g n) i = g i := (pk_rp w g n).2 i hi
def wsN (p : Nat → BitVec 8) : Nat → Nat
  | 0 => pkW 32 (w0 p) 16
  | m + 1 => fk (wsN p m) fun P => fk (nextW (un 32 P) (16 + m)).toNat fun x => P + (x <<< (32 * (16 + m)))
theorem ws_rp (p : Nat → BitVec 8) : ∀ m, Rp 32 (16 + m) (wsN p m) (wK p m)
  | 0 => (pk_rp 32 (w0 p) 16).congr fun i hi => by show _ = if i < 16 then w0 p i else 0#32; rw [if_pos hi]
  | m + 1 => by
    have ih := ws_rp p m
    show Rp 32 (16 + m + 1) (fk (wsN p m) fun P => fk (nextW (un 32 P) (16 + m)).toNat fun x => P + (x <<< (32 * (16 + m)))) _
    rw [fk_eq, fk_eq]
    have hn : nextW (un 32 (wsN p m)) (16 + m) = nextW (wK p m) (16 + m) := by
      unfold nextW
      rw [ih.2 _ (by omega), ih.2 _ (by omega), ih.2 _ (by omega), ih.2 _ (by omega)]
    rw [hn]
    refine (ih.app (rp_one _)).congr fun i hi => ?_
    show (if i < 16 + m then wK p m i else nextW (wK p m) (16 + m)) = if i = 16 + m then nextW (wK p m) (16 + m) else wK p m i
    by_cases e : i < 16 + m
    · rw [if_pos e, if_neg (by omega)]
    · rw [if_neg e, if_pos (by omega)]
def rsN (W s : Nat → BitVec 32) : Nat → Nat
  | 0 => pkW 32 s 8
  | n + 1 => fk (rsN W s n) fun P => pkW 32 (rnd (kT n) (W n) (un 32 P)) 8
theorem rs_at (W W' s s' : Nat → BitVec 32) (hs : ∀ j, j < 8 → s j = s' j) : ∀ n, (∀ i, i < n → W i = W' i) → ∀ j, j < 8 → un 32 (rsN W s n) j = rndK W' s' n j
  | 0, _, j, hj => (pk_at hj).trans (hs j hj)
  | n + 1, hW, j, hj => by
    show un 32 (fk (rsN W s n) fun P => pkW 32 (rnd (kT n) (W n) (un 32 P)) 8) j = rnd (kT n) (W' n) (rndK W' s' n) j
    rw [fk_eq, pk_at hj, hW n (by omega)]
    exact rnd_congr _ _ _ _ (rs_at W W' s s' hs n fun i hi => hW i (by omega)) j hj
def chN (m : Nat → BitVec 8) : Nat → Nat
  | 0 => pkW 32 fT 8
  | k + 1 => fk (chN m k) fun S => fk (wsN (fun j => m (64 * k + j)) 48) fun W => fk (rsN (un 32 W) (un 32 S) 64) fun R => pkW 32 (fun j => sW (un 32 S j) (un 32 R j)) 8
theorem ch_at (m : Nat → BitVec 8) : ∀ k, ∀ j, j < 8 → un 32 (chN m k) j = chain m k j
  | 0, j, hj => pk_at hj
  | k + 1, j, hj => by
    have ih := ch_at m k
    show un 32 (fk (chN m k) fun S => fk (wsN (fun j => m (64 * k + j)) 48) fun W => fk (rsN (un 32 W) (un 32 S) 64) fun R => pkW 32 (fun j => sW (un 32 S j) (un 32 R j)) 8) j = sW (chain m k j) (rndK (wordsW fun j => m (64 * k + j)) (chain m k) 64 j)
    rw [fk_eq, fk_eq, fk_eq, pk_at hj, ih j hj, rs_at _ (wordsW fun j => m (64 * k + j)) _ (chain m k) ih 64 (fun i hi => (ws_rp _ 48).2 i (by omega)) j hj]
def shN (m : Nat → BitVec 8) (n : Nat) : Nat := fk (chN (fillF m n) (pieces n)) fun S => pkW 8 (digF (un 32 S)) 32
theorem sh_at (m : Nat → BitVec 8) (n j : Nat) (hj : j < 32) : un 8 (shN m n) j = shaF m n j := by
  show un 8 (fk (chN (fillF m n) (pieces n)) fun S => pkW 8 (digF (un 32 S)) 32) j = digF (chain (fillF m n) (pieces n)) j
  rw [fk_eq, pk_at hj]
  unfold digF
  rw [ch_at _ _ _ (by omega)]
theorem cat_congr {m m' b b' : Nat → BitVec 8} {n k : Nat} (h1 : ∀ i, i < n → m i = m' i) (h2 : ∀ i, i < k → b i = b' i) (j : Nat) (hj : j < n + k) : catF m n b j = catF m' n b' j := by
  unfold catF
  by_cases e : j < n
  · rw [if_pos e, if_pos e, h1 j e]
  · rw [if_neg e, if_neg e, h2 _ (by omega)]
def tgN (l : Nat) (key m : Nat → BitVec 8) (n : Nat) : Nat := fk (pkW 8 (readyF l key) 64) fun R => fk (shN (catF (maskF (un 8 R) 54#8) 64 m) (64 + n)) fun d => shN (catF (maskF (un 8 R) 92#8) 64 (un 8 d)) 96
theorem tg_at (l : Nat) (key m : Nat → BitVec 8) (n j : Nat) (hj : j < 32) : un 8 (tgN l key m n) j = tagF l key m n j := by
  unfold tgN
  rw [fk_eq, fk_eq, sh_at _ _ _ hj]
  unfold tagF
  have hR : ∀ x i, i < 64 → maskF (un 8 (pkW 8 (readyF l key) 64)) x i = maskF (readyF l key) x i := fun x i hi => by unfold maskF; rw [pk_at hi]
  have h1 : ∀ i, i < 64 + n → catF (maskF (un 8 (pkW 8 (readyF l key) 64)) 54#8) 64 m i = catF (maskF (readyF l key) 54#8) 64 m i := cat_congr (hR _) fun _ _ => rfl
  have h2 : ∀ i, i < 32 → un 8 (shN (catF (maskF (un 8 (pkW 8 (readyF l key) 64)) 54#8) 64 m) (64 + n)) i = shaF (catF (maskF (readyF l key) 54#8) 64 m) (64 + n) i := fun i hi => by
    rw [sh_at _ _ _ hi, shaF_congr _ _ _ h1]
  have h3 : ∀ i, i < 64 + 32 → catF (maskF (un 8 (pkW 8 (readyF l key) 64)) 92#8) 64 (un 8 (shN (catF (maskF (un 8 (pkW 8 (readyF l key) 64)) 54#8) 64 m) (64 + n))) i = catF (maskF (readyF l key) 92#8) 64 (shaF (catF (maskF (readyF l key) 54#8) 64 m) (64 + n)) i := cat_congr (hR _) h2
  exact congrFun (shaF_congr _ _ 96 h3) j
end Go.Proofs.YtgjabfjkokpkiaaDoor
