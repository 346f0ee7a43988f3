/-
  Bytes derived of a key and a label.
-/
import Derived.Test.YthgflnjeojhgkaaDoorHTagOf
import Derived.Test.YthgflnjeojhgkaaDoorGrowV
import Derived.OwnWalk
import Derived.Laws.IdiomStrings
import Derived.Laws.AppendOwn
namespace Go.Proofs.YthgflnjeojhgkaaDoor
open Go.RowKit Go.BigFrame
def labF (s : ByteArray) (j : Nat) : BitVec 8 := BitVec.ofNat 8 (s.data.getD j 0).toNat
theorem lab_cell (s : ByteArray) (cap j : Nat) (hj : j < s.size) : (bytesRow s cap)[j]? = some (yv (labF s) j) := by
  have hj' : j < s.data.size := hj
  unfold bytesRow
  rw [Array.getElem?_append_left (by simpa using hj')]
  simp only [Array.getElem?_map, Array.getElem?_eq_getElem hj', Option.map_some, yv, labF, Option.some.injEq, Value.int.injEq, true_and]
  unfold Array.getD
  rw [dif_pos hj']
  have := (s.data[j]).toBitVec.isLt
  simp only [BitVec.toNat_ofNat]
  rw [Nat.mod_eq_of_lt (by simpa using this)]
  rfl
theorem BV.form {v : Value} {l : Nat} {b : Nat → BitVec 8} {w : World} (h : BV v l b w) : ∃ oa cp, v = .slice oa l cp := by
  rcases h with ⟨h, h0⟩ | ⟨a, cap, h, _⟩
  · exact ⟨none, 0, by rw [h, h0]⟩
  · exact ⟨_, cap, h⟩
/-- a label as bytes -/
theorem run_label (s : ByteArray) (w : World) : ∃ v X, (convert 9 22 (.string s)).run Tryd.prog w = .ok v X ∧ BV v s.size (labF s) X ∧ Ext w X := by
  refine ⟨_, _, run_bytes_of_string w 9 22 5 s Tryd.underlying9 Tryd.underlying22 Tryd.underlying5, .inr ⟨_, _, rfl, grownCap_ge _ _ _ _, ?_⟩, ?_⟩
  · exact lie_new w.drew s.size _ 5 _ (labF s) (fun j hj => lab_cell s _ j hj)
  · exact Ext.trans (Below.refl _ _).drew ((Below.refl _ _).alloc (Nat.le_refl _) _)
def dls (p ll : Nat) (i : Nat) : Nat := if i = 0 then p else if i = 1 then ll else 1
def dbs (A lab : Nat → BitVec 8) (c : BitVec 8) (i : Nat) : Nat → BitVec 8 := if i = 0 then A else if i = 1 then lab else fun _ => c
/-- one of the tags that bytes are derived from -/
def dTag (l : Nat) (key : Nat → BitVec 8) (ll : Nat) (lab : Nat → BitVec 8) : Nat → Nat → BitVec 8
  | 0 => tagF l key (allF (dls 0 ll) (dbs (fun _ => 0#8) lab 1#8) 3) (sumL (dls 0 ll) 3)
  | i + 1 => tagF l key (allF (dls 32 ll) (dbs (dTag l key ll lab i) lab (BitVec.ofNat 8 (i + 2))) 3) (sumL (dls 32 ll) 3)
def drvF (l : Nat) (key : Nat → BitVec 8) (ll : Nat) (lab : Nat → BitVec 8) (j : Nat) : BitVec 8 := dTag l key ll lab (j / 32) (j % 32)
def prevL (c : Nat) : Nat := if c = 0 then 0 else 32
def prevF (l : Nat) (key : Nat → BitVec 8) (ll : Nat) (lab : Nat → BitVec 8) : Nat → Nat → BitVec 8
  | 0 => fun _ => 0#8
  | c + 1 => dTag l key ll lab c
theorem dTag_eq (l : Nat) (key : Nat → BitVec 8) (ll : Nat) (lab : Nat → BitVec 8) (c : Nat) : dTag l key ll lab c = tagF l key (allF (dls (prevL c) ll) (dbs (prevF l key ll lab c) lab (BitVec.ofNat 8 (c + 1))) 3) (sumL (dls (prevL c) ll) 3) := by
  cases c <;> rfl
theorem sum3 (p ll : Nat) : sumL (dls p ll) 3 = p + ll + 1 := by simp [sumL, dls]
theorem cutH (b k : Nat) (hk : k ≤ 32) (X : World) : Sem.run Tryd.prog (Instr.sliceAt 23 (.pointer (some ⟨b, 0, none⟩)) none (some (.int .i64 (k : Int))) none) X = .ok (.slice (some ⟨b, 0, none⟩) k 32) X := by
  have h1 : Tryd.prog.arrayLen 23 = 32 := by kernel_rfl
  have h2 : Tryd.prog.elem 23 = 5 := by kernel_rfl
  rw [run_sliceAt_array_h X 23 ⟨b, 0, none⟩ (by rw [h1, h2]; exact Tryd.underlying23) .i64 (k : Int) (by omega) (by rw [h1]; omega)]
  rw [h1, h2, show (sizeOf 5).run Tryd.prog X = .ok 1 X by kernel_rfl]
  simp only [Result.andThen_ok, slicedAt, Int.toNat_natCast, Nat.mul_one]
  rfl
theorem own_form {base n : Nat} {v : Value} {f : Nat → BitVec 8} {w : World} (h : OwnB base 5 v n (yv f) w) : ∃ oa cp, v = .slice oa n cp := by
  rcases h.2 with ⟨rfl, rfl⟩ | ⟨g, cap, _, rfl, _⟩
  · exact ⟨none, 0, rfl⟩
  · exact ⟨_, cap, rfl⟩
theorem grown_ext {w X Y : World} {row : Option Nat} (h : Ext w X) (hg : X.grownBy Y row) (hr : ∀ k, row = some k → w.heap.size ≤ k) : Ext w Y := Below.trans h (below_grown (Below.size h) hg hr)
/-- how a derivation stands on its way -/
structure DS (w : World) (base b7 d1 d2 : Nat) (m1 m2 : Nat → BitVec 8) (v : Value) (L : Nat) (f : Nat → BitVec 8) (X : World) : Prop where
  ext : Ext w X
  pair : RowAt b7 2 (dv d1 d2) X
  inner : HashOf d1 m1 64 X
  outer : HashOf d2 m2 64 X
  own : OwnB base 5 v L (yv f) X
  size : base ≤ X.heap.size
theorem DS.carry {w : World} {base b7 d1 d2 L : Nat} {m1 m2 f : Nat → BitVec 8} {v : Value} {X Y : World} (h : DS w base b7 d1 d2 m1 m2 v L f X) (k : Ext X Y) : DS w base b7 d1 d2 m1 m2 v L f Y :=
  ⟨Ext.trans h.ext k, h.pair.carry k, RowAt.carry h.inner k, RowAt.carry h.outer k, h.own.ext k, Nat.le_trans h.size (Below.size k)⟩
set_option maxRecDepth 20000 in
set_option maxHeartbeats 4000000 in
theorem derive_any (v : Value) (l : Nat) (key : Nat → BitVec 8) (s : ByteArray) (n : Nat) (w : World) (h : BV v l key w) (hC : TabC w) (hl : l ≤ 140737488351232) (hs : s.size ≤ 140737488351232) (hn1 : 1 ≤ n) (hn2 : n ≤ 8160) :
    Calls Tryd.prog 15 #[v, .string s, .int .i64 (n : Int)] w fun e w' => ∃ v', e = .returned v' ∧ OwnB w.heap.size 5 v' n (yv (drvF l key s.size (labF s))) w' ∧ Ext w w' := by
  have hz := zeroD
  have hz2 := zero24
  obtain ⟨oa0, cp0, rfl⟩ : ∃ oa cp, v = .slice oa l cp := by
    rcases h with ⟨h, h0⟩ | ⟨a, cap, h, _⟩
    · exact ⟨none, 0, by rw [h, h0]⟩
    · exact ⟨_, cap, h⟩
  have hbg := hideit (begin_any _ l key w h hC hl)
  replace hC := hideit hC
  clear h
  obtain ⟨D, hD⟩ : ∃ D, D = dTag l key s.size (labF s) := ⟨_, rfl⟩
  have hDf : Hid (drvF l key s.size (labF s) = fun j => D (j / 32) (j % 32)) := by rw [hD]; rfl
  rw [show drvF l key s.size (labF s) = fun j => D (j / 32) (j % 32) from hDf]
  obtain ⟨PF, hPF⟩ : ∃ PF, PF = prevF l key s.size (labF s) := ⟨_, rfl⟩
  have hPF1 : Hid (∀ c, PF (c + 1) = D c) := fun c => by rw [hPF, hD]; rfl
  have hDT : Hid (∀ c, D c = tagF l key (allF (dls (prevL c) s.size) (dbs (PF c) (labF s) (BitVec.ofNat 8 (c + 1))) 3) (sumL (dls (prevL c) s.size) 3)) := fun c => by rw [hD, hPF]; exact dTag_eq _ _ _ _ c
  clear hD hPF hDf
  have i1 : ¬ (n : Int) < 1 := by omega
  have i2 : ¬ (8160 : Int) < (n : Int) := by omega
  go_enter Tryd.func15, Tryd.ntmps15
  go_upto_region 3 with (fail)
  refine wp_region_lit ?_
  refine wpList_run rfl (.slice oa0 l cp0) (by simp [go_sem]) ?_
  simp only [Act.put, List.setIfInBounds_toArray, List.set_cons_zero, List.set_cons_succ]
  refine wpList_call rfl (by simp [go_sem]) (hbg.out.mono ?_)
  rintro e w2 ⟨d1, d2, hdd, hd1, hd2, rfl, hH1, hH2, hw2⟩
  refine ⟨_, rfl, ?_⟩
  simp only [Act.put, List.setIfInBounds_toArray, List.set_cons_zero, List.set_cons_succ]
  have hd1' : d1 < w2.heap.size := hH1.2.2
  have hd2' : d2 < w2.heap.size := hH2.2.2
  have HN := hideit (RowAt.new w2 2 (fun _ => Value.pointer none) 42)
  have hE4 : Ext w2 (w2.alloc (.cells (row 2 (fun _ => Value.pointer none)).toArray 42)) := (Below.refl _ _).alloc (Nat.le_refl _) _
  refine wpList_to rfl (.pointer (some ⟨w2.heap.size, 0, none⟩)) (w2.alloc (.cells (row 2 (fun _ => Value.pointer none)).toArray 42)) (by simp [go_sem, hz]) ?_
  simp only [Act.put, List.setIfInBounds_toArray, List.set_cons_zero, List.set_cons_succ]
  refine wpList_store_mid rfl 42 (.tmp 7) (.tmp 19) rfl _ 0 (row 2 (dv d1 d2)).toArray rfl rfl (by rw [row_size]; exact HN.out.there) (by rw [row_size]; exact infoD) (row_one fun j _ => dv_one _ _ j) ?_
  have HE5 := hideit (below_setCells w2.heap.size (by omega) (row 2 (dv d1 d2)) 0 _ (Ext.trans hw2 hE4))
  have HP5 := hideit (HN.out.cells (g' := dv d1 d2))
  have H15 := hideit (RowAt.cellsOther (RowAt.carry hH1 hE4) (c := w2.heap.size) (by omega) (row 2 (dv d1 d2)) 0)
  have H25 := hideit (RowAt.cellsOther (RowAt.carry hH2 hE4) (c := w2.heap.size) (by omega) (row 2 (dv d1 d2)) 0)
  generalize ((w2.alloc (.cells (row 2 (fun _ => Value.pointer none)).toArray 42)).setCells w2.heap.size 0 (row 2 (dv d1 d2))) = w5 at *
  have hb7 : w2.heap.size < w5.heap.size := HP5.out.2.2
  have hwb : w.heap.size ≤ w2.heap.size := Below.size hw2
  generalize w2.heap.size = b7 at *
  clear hbg hw2 hH1 hH2 hE4 HN
  obtain ⟨m1, hm1⟩ : ∃ m, m = maskF (readyF l key) 54#8 := ⟨_, rfl⟩
  obtain ⟨m2, hm2⟩ : ∃ m, m = maskF (readyF l key) 92#8 := ⟨_, rfl⟩
  rw [← hm1] at H15
  rw [← hm2] at H25
  replace hm1 := hideit hm1
  replace hm2 := hideit hm2
  simp only [Act.put]
  go_upto_region 4 with (fail)
  refine wp_region_lit ?_
  refine wpList_run rfl (.int .i64 (n : Int)) (by simp [go_sem]) ?_
  simp only [Act.put, List.setIfInBounds_toArray, List.set_cons_zero, List.set_cons_succ]
  obtain ⟨ti, tz, q1, q2, q3, q4, q5⟩ := elem22.info
  refine wpList_make_own w5 rfl (.const (.int .i64 0)) (.tmp 20) 22 rfl w5.heap.size 5 ti tz 1 elem22.slice q1 q2 q3 .i64 .i64 (n : Int) n rfl rfl rfl (by rw [q4]; omega) (by unfold maxLen; omega) (Nat.le_refl _) ?_
  intro w6 hO6 hg6
  have hE6 : Ext w5 w6 := ⟨hg6.os, hg6.tape, hg6.output, hg6.size, fun k hk => hg6.block k hk (by simp)⟩
  have HD0 : DS w w5.heap.size b7 d1 d2 m1 m2 (.slice (some ⟨w5.heap.size, 0, none⟩) 0 n) (Nat.min n (32 * 0)) (fun j => D (j / 32) (j % 32)) w6 :=
    ⟨Ext.trans HE5.out hE6, HP5.out.carry hE6, RowAt.carry H15.out hE6, RowAt.carry H25.out hE6, by rw [Nat.mul_zero, Nat.min_eq_min, Nat.min_zero]; exact hO6, hg6.size⟩
  replace HD0 := hideit HD0
  clear hO6 hg6 hE6 HE5 HP5 H15 H25 q1 q2 q3 q4 q5 ti tz
  generalize hbase : w5.heap.size = base at *
  clear hbase
  simp only [Act.put, List.setIfInBounds_toArray, List.set_cons_zero, List.set_cons_succ]
  refine wpList_run rfl (.slice (some ⟨base, 0, none⟩) 0 n) (by simp [go_sem]) ?_
  simp only [Act.put, List.setIfInBounds_toArray, List.set_cons_zero, List.set_cons_succ]
  have hsb : w.heap.size ≤ base := by omega
  go_wp2
  go_loopw [8, 9, 10] (fun ov av cv wr => ∃ (c : Nat) (u : Value), u = av ∧ c ≤ 255 ∧ cv = .int .u8 (((c + 1) % 256 : Nat) : Int) ∧ DS w base b7 d1 d2 m1 m2 ov (Nat.min n (32 * c)) (fun j => D (j / 32) (j % 32)) wr ∧ BV u (prevL c) (PF c) wr) (fun ov _ _ _ => n - restOf ov)
  case atStart => exact ⟨0, _, rfl, by omega, rfl, HD0.out, .inl ⟨rfl, rfl⟩⟩
  case round =>
    clear HD0
    obtain ⟨c, av, rfl, hc, rfl, hS, hA⟩ := hrel
    obtain ⟨L, hL⟩ : ∃ L, L = Nat.min n (32 * c) := ⟨_, rfl⟩
    rw [← hL] at hS
    have hLn : L ≤ n := by rw [hL]; exact Nat.min_le_left _ _
    obtain ⟨oa, cp, rfl⟩ := own_form hS.own
    obtain ⟨oav, cav, rfl⟩ := hA.form
    have HS := hideit hS
    have HA := hideit hA
    clear hS hA
    by_cases hlt : L < n
    · have hL2 : L = 32 * c := by
        have := Nat.min_le_right n (32 * c)
        rw [hL] at hlt ⊢
        rcases Nat.le_total n (32 * c) with h | h
        · exfalso
          have : Nat.min n (32 * c) = n := Nat.min_eq_left h
          omega
        · exact Nat.min_eq_right h
      clear hL
      have hc2 : c ≤ 254 := by omega
      have hmod : (c + 1) % 256 = c + 1 := by omega
      rw [hmod]
      obtain ⟨x, hx⟩ : ∃ x, x = BitVec.ofNat 8 (c + 1) := ⟨_, rfl⟩
      have hxn : x.toNat = c + 1 := by rw [hx, BitVec.toNat_ofNat]; omega
      replace hx := hideit hx
      have j1 : (L : Int) < (n : Int) := by omega
      go_upto_region 9 with (fail)
      refine wp_region_lit ?_
      refine wpList_load_mid rfl 42 (.tmp 7) rfl b7 0 rfl (row 2 (dv d1 d2)) _ HS.out.pair.range Tryd.underlying42 rfl (by rw [row_length]; exact infoD) ?_
      simp only [Act.put, List.setIfInBounds_toArray, List.set_cons_zero, List.set_cons_succ]
      refine wpList_run rfl (.slice oav (prevL c) cav) (by simp [go_sem]) ?_
      simp only [Act.put, List.setIfInBounds_toArray, List.set_cons_zero, List.set_cons_succ]
      refine wpList_run rfl (.string s) (by simp [go_sem]) ?_
      simp only [Act.put, List.setIfInBounds_toArray, List.set_cons_zero, List.set_cons_succ]
      obtain ⟨lv, w7, hrun, hB7, hE7⟩ := run_label s wr
      obtain ⟨olv, clv, rfl⟩ := hB7.form
      refine wpList_to rfl (.slice olv s.size clv) w7 (by simp [go_sem, hrun]) ?_
      simp only [Act.put, List.setIfInBounds_toArray, List.set_cons_zero, List.set_cons_succ]
      have HS7 := hideit (HS.out.carry hE7)
      have HA7 := hideit (HA.out.ext hE7)
      have HB7 := hideit hB7
      clear HS HA hB7 hE7 hrun
      refine wpList_run rfl (.int .u8 ((c + 1 : Nat) : Int)) (by simp [go_sem]) ?_
      simp only [Act.put, List.setIfInBounds_toArray, List.set_cons_zero, List.set_cons_succ]
      have hE8 : Ext w7 (w7.alloc (.cells #[.int .u8 ((c + 1 : Nat) : Int)] 5)) := (Below.refl _ _).alloc (Nat.le_refl _) _
      have hX8 : LieAt ⟨w7.heap.size, 0, none⟩ 1 (yv fun _ => x) (w7.alloc (.cells #[.int .u8 ((c + 1 : Nat) : Int)] 5)) := lie_new w7 1 _ 5 (0, 0) (fun _ => x) (fun j hj => by
        obtain rfl : j = 0 := by omega
        simp only [yv, hxn]; rfl)
      refine wpList_to rfl (.slice (some ⟨w7.heap.size, 0, none⟩) 1 1) (w7.alloc (.cells #[.int .u8 ((c + 1 : Nat) : Int)] 5)) (by simp [go_sem]) ?_
      simp only [Act.put, List.setIfInBounds_toArray, List.set_cons_zero, List.set_cons_succ]
      have HS8 := hideit (HS7.out.carry hE8)
      have HA8 := hideit (HA7.out.ext hE8)
      have HB8 := hideit (HB7.out.ext hE8)
      have HX8 := hideit hX8
      generalize w7.heap.size = b33 at *
      generalize w7.alloc (.cells #[.int .u8 ((c + 1 : Nat) : Int)] 5) = w8 at *
      clear HS7 HA7 HB7 hE8 hX8
      have hE9 : Ext w8 (w8.alloc (.cells #[.slice oav (prevL c) cav, .slice olv s.size clv, .slice (some ⟨b33, 0, none⟩) 1 1] 22)) := (Below.refl _ _).alloc (Nat.le_refl _) _
      have hP9 : Parts (.slice (some ⟨w8.heap.size, 0, none⟩) 3 3) 3 (fun i => if i = 0 then .slice oav (prevL c) cav else if i = 1 then .slice olv s.size clv else .slice (some ⟨b33, 0, none⟩) 1 1) (dls (prevL c) s.size) (dbs (PF c) (labF s) x) (w8.alloc (.cells #[.slice oav (prevL c) cav, .slice olv s.size clv, .slice (some ⟨b33, 0, none⟩) 1 1] 22)) := by
        refine ⟨.inr ⟨_, 3, rfl, Nat.le_refl _, lieNew w8 3 _ 22 (0, 0) _ (fun j hj => ?_)⟩, fun i hi => ?_⟩
        · rcases (by omega : j = 0 ∨ j = 1 ∨ j = 2) with rfl | rfl | rfl <;> rfl
        · rcases (by omega : i = 0 ∨ i = 1 ∨ i = 2) with rfl | rfl | rfl
          · exact HA8.out.ext hE9
          · exact HB8.out.ext hE9
          · exact .inr ⟨_, 1, rfl, Nat.le_refl _, HX8.out.carry hE9⟩
      refine wpList_to rfl (.slice (some ⟨w8.heap.size, 0, none⟩) 3 3) (w8.alloc (.cells #[.slice oav (prevL c) cav, .slice olv s.size clv, .slice (some ⟨b33, 0, none⟩) 1 1] 22)) (by simp [go_sem]) ?_
      simp only [Act.put, List.setIfInBounds_toArray, List.set_cons_zero, List.set_cons_succ]
      have HS9 := hideit (HS8.out.carry hE9)
      replace hP9 := hideit hP9
      generalize w8.heap.size = b34 at *
      generalize w8.alloc (.cells #[.slice oav (prevL c) cav, .slice olv s.size clv, .slice (some ⟨b33, 0, none⟩) 1 1] 22) = w9 at *
      clear HS8 HA8 HB8 HX8 hE9
      have ht := tag_any d1 d2 64 64 3 m1 m2 _ _ _ _ w9 HS9.out.inner HS9.out.outer hP9.out (hC.out.ext HS9.out.ext) (by omega) (by rw [sum3]; unfold prevL; split <;> omega) (by omega)
      have hRR : shaF (catF m2 64 (shaF (joinF m1 64 (dls (prevL c) s.size) (dbs (PF c) (labF s) x) 3) (64 + sumL (dls (prevL c) s.size) 3))) (64 + 32) = D c := by
        rw [hDT.out c, hm1.out, hm2.out, hx.out]
        unfold tagF
        rw [shaF_congr _ _ _ (join_all (maskF (readyF l key) 54#8) 64 _ _ 3)]
      rw [hRR] at ht
      clear hRR
      replace ht := hideit ht
      refine wpList_call rfl (by simp [go_sem]) (ht.out.mono ?_)
      rintro e w10 ⟨rfl, hw10⟩
      refine ⟨_, rfl, ?_⟩
      simp only [Act.put, List.setIfInBounds_toArray, List.set_cons_zero, List.set_cons_succ]
      have HS10 := hideit (HS9.out.carry hw10)
      clear HS9 hw10 ht hP9
      have HN := hideit (RowAt.new w10 32 (yv fun _ => 0#8) 23)
      have hE11 : Ext w10 (w10.alloc (.cells (row 32 (yv fun _ => 0#8)).toArray 23)) := (Below.refl _ _).alloc (Nat.le_refl _) _
      have hq1 : b7 < w10.heap.size := HS10.out.pair.2.2
      have hq2 : d1 < w10.heap.size := HS10.out.inner.2.2
      have hq3 : d2 < w10.heap.size := HS10.out.outer.2.2
      have hq4 : base ≤ w10.heap.size := HS10.out.size
      refine wpList_to rfl (.pointer (some ⟨w10.heap.size, 0, none⟩)) (w10.alloc (.cells (row 32 (yv fun _ => 0#8)).toArray 23)) (by simp [go_sem, hz2]) ?_
      simp only [Act.put, List.setIfInBounds_toArray, List.set_cons_zero, List.set_cons_succ]
      refine wpList_store_mid rfl 23 (.tmp 11) (.tmp 35) rfl _ 0 (row 32 (yv (D c))).toArray rfl rfl (by rw [row_size]; exact HN.out.there) (by rw [row_size]; exact info24) (row_one fun _ _ => rfl) ?_
      have HT := hideit (HN.out.cells (g' := yv (D c)))
      have hlt10 := HS10.out.own.lt
      have HE12 : Ext w10 ((w10.alloc (.cells (row 32 (yv fun _ => 0#8)).toArray 23)).setCells w10.heap.size 0 (row 32 (yv (D c)))) := below_setCells w10.heap.size (Nat.le_refl _) _ _ _ hE11
      have HS12 := hideit (HS10.out.carry HE12)
      have hnb : Hid ((Value.slice oa L cp).ownBlock ≠ some w10.heap.size) := fun e => by have := (hlt10 _ e).2; omega
      have hb11 : w10.heap.size ≥ base := hq4
      generalize ((w10.alloc (.cells (row 32 (yv fun _ => 0#8)).toArray 23)).setCells w10.heap.size 0 (row 32 (yv (D c)))) = w12 at *
      generalize w10.heap.size = b11 at *
      clear HN hE11 HS10 hlt10 HE12 hq1 hq2 hq3 hq4
      simp only [Act.put]
      obtain ⟨r, hr⟩ : ∃ r, n = L + r := ⟨n - L, by omega⟩
      obtain ⟨t, ht⟩ : ∃ t, t = Nat.min r 32 := ⟨_, rfl⟩
      have ht1 : t ≤ r := by rw [ht]; exact Nat.min_le_left _ _
      have ht2 : t ≤ 32 := by rw [ht]; exact Nat.min_le_right _ _
      have ht3 : t = r ∨ t = 32 := by
        rw [ht]
        rcases Nat.le_total r 32 with h | h
        · exact .inl (Nat.min_eq_left h)
        · exact .inr (Nat.min_eq_right h)
      clear ht
      go_upto_region 10 with (fail)
      refine wp_region_lit ?_
      refine wpList_run rfl (.slice oa L cp) (by simp [go_sem]) ?_
      simp only [Act.put, List.setIfInBounds_toArray, List.set_cons_zero, List.set_cons_succ]
      refine wpList_run rfl (.int .i64 (n : Int)) (by simp [go_sem]) ?_
      simp only [Act.put, List.setIfInBounds_toArray, List.set_cons_zero, List.set_cons_succ]
      refine wpList_run rfl (.slice oa L cp) (by simp [go_sem]) ?_
      simp only [Act.put, List.setIfInBounds_toArray, List.set_cons_zero, List.set_cons_succ]
      refine wpList_run rfl (.int .i64 (L : Int)) (by simp [go_sem]) ?_
      simp only [Act.put, List.setIfInBounds_toArray, List.set_cons_zero, List.set_cons_succ]
      have hwr : IntKind.i64.wrap ((n : Int) - (L : Int)) = (r : Int) := by rw [IntKind.wrap_i64]; omega
      refine wpList_run rfl (.int .i64 (r : Int)) (by simp [go_sem, hwr]) ?_
      clear hwr
      simp only [Act.put, List.setIfInBounds_toArray, List.set_cons_zero, List.set_cons_succ]
      refine wpList_run rfl (.int .i64 (t : Int)) (by
        rcases Nat.lt_trichotomy r 32 with hh | hh | hh
        · have e1 : (r : Int) < 32 := by omega
          have e3 : t = r := by omega
          simp [go_sem, e1, e3]
        · subst hh
          have e3 : t = 32 := by omega
          simp [go_sem, e3]
        · have e1 : ¬ (r : Int) < 32 := by omega
          have e3 : t = 32 := by omega
          simp [go_sem, e1, e3]) ?_
      simp only [Act.put, List.setIfInBounds_toArray, List.set_cons_zero, List.set_cons_succ]
      have hcut := cutH b11 t ht2
      refine wpList_run rfl (.slice (some ⟨b11, 0, none⟩) t 32) (by simp [go_sem, hcut]) ?_
      clear hcut
      simp only [Act.put, List.setIfInBounds_toArray, List.set_cons_zero, List.set_cons_succ]
      refine wpList_growV (n := L) (base := base) (g := yv fun j => D (j / 32) (j % 32)) elem22 rfl (.tmp 36) (.tmp 42) rfl rfl HS12.out.own _ t (D c) (yv fun j => D (j / 32) (j % 32)) rfl (.inr ⟨_, 32, rfl, ht2, HT.out.lie t ht2⟩) (fun j hj => rfl) (fun j hj => by
        simp only [yv]
        rw [show (L + j) / 32 = c by omega, show (L + j) % 32 = j by omega]) (by omega) HS12.out.size ?_
      intro v13 w13 hO13 hg13
      have hlt12 := HS12.out.own.lt
      have HS13 : DS w base b7 d1 d2 m1 m2 v13 (L + t) (fun j => D (j / 32) (j % 32)) w13 :=
        ⟨grown_ext HS12.out.ext hg13 (fun k hk => by have := (hlt12 k hk).1; omega), HS12.out.pair.grown hg13 (fun e => by have := (hlt12 _ e.symm).1; omega), RowAt.grown HS12.out.inner hg13 (fun e => by have := (hlt12 _ e.symm).1; omega), RowAt.grown HS12.out.outer hg13 (fun e => by have := (hlt12 _ e.symm).1; omega), hO13, Nat.le_trans HS12.out.size hg13.size⟩
      have HT13 := hideit (HT.out.grown hg13 (fun e => hnb.out e.symm))
      have hLt : L + t = Nat.min n (32 * (c + 1)) := by
        rcases Nat.le_total n (32 * (c + 1)) with hh | hh
        · have : Nat.min n (32 * (c + 1)) = n := Nat.min_eq_left hh
          omega
        · have : Nat.min n (32 * (c + 1)) = 32 * (c + 1) := Nat.min_eq_right hh
          omega
      replace HS13 := hideit HS13
      clear hlt12 hO13 hg13 HS12 HT hnb
      simp only [Act.put, List.setIfInBounds_toArray, List.set_cons_zero, List.set_cons_succ]
      have c23 := cutR23
      go_wp2
      have hB13 : BV (.slice (some ⟨b11, 0, none⟩) 32 32) (prevL (c + 1)) (PF (c + 1)) w13 := by
        rw [hPF1.out c]
        exact .inr ⟨_, 32, rfl, Nat.le_refl _, HT13.out.lie 32 (Nat.le_refl _)⟩
      obtain ⟨oa2, cp2, rfl⟩ := own_form HS13.out.own
      refine ⟨⟨c + 1, _, rfl, by omega, ?_, hLt ▸ HS13.out, hB13⟩, by simp [restOf]; omega⟩
      congr 1 <;> omega
    · obtain rfl : L = n := by omega
      clear hL
      have j1 : ¬ (L : Int) < (L : Int) := by omega
      have HO : OwnB w.heap.size 5 (.slice oa L cp) L (yv fun j => D (j / 32) (j % 32)) wr := by
        have := HS.out.own
        rcases this with ⟨q, h2⟩
        refine ⟨q, ?_⟩
        rcases h2 with h2 | ⟨g, cap, cur, h3, h4, h5⟩
        · exact .inl h2
        · exact .inr ⟨g, cap, cur, h3, Nat.le_trans hsb h4, h5⟩
      replace HO := hideit HO
      go_wp2
      go_ret
      exact ⟨_, rfl, HO.out, HS.out.ext⟩
end Go.Proofs.YthgflnjeojhgkaaDoor
