/-
  For all Acts the law CodecSorted returns true, and its argument reads behind the call as it reads before.
-/
import Derived.Test.YtboncdlihgpepaaRows
import Derived.ProofKit
import Derived.OpenShut
import Derived.ShutString
import Derived.ChangeOld
import Derived.Below
import Derived.SizedLaws
import Derived.Test.YtboncdlihgpepaaSv4
import Derived.Test.YtboncdlihgpepaaLives
namespace Go.Proofs.Ytboncdlihgpepaa.codecSorted
open Go.ChangeShapes Go.WideShapes Go.ChangeAt Go.RowKit
set_option linter.unusedVariables false

theorem own : ownKnob Try.prog.godebug = none := by kernel_rfl
theorem laidOut : laidOutB Try.prog = true := by kernel_rfl

open Go.Shelf Go.Lib Go.Sort Go.Maps
theorem inf68 : (Try.prog.info? 68).map (·.size) = some 3 := by kernel_rfl
theorem act_one (k m : Int) (t : ByteArray) : ∀ j, j < 3 → (actv k m t j).oneCell' = true := fun j hj => by
  rcases (by omega : j = 0 ∨ j = 1 ∨ j = 2) with rfl | rfl | rfl <;> rfl
theorem zero68 (w : World) : (zeroValue 68).run Try.prog w = .ok (.agg (row 3 (actv 0 0 ByteArray.empty)).toArray) w := by kernel_rfl
theorem map_heap {b n : Nat} {m : Int → Option Value} {w : World} (h : MapAt Try.prog 3 b n m w) : ∃ es clock, w.heap[b]? = some (.map es clock) := by
  obtain ⟨D, ⟨es, clock, hb, _⟩, _⟩ := h
  exact ⟨es, clock, hb⟩
theorem DL.but_map {xb mb n : Nat} {m : Int → Option Value} {L : List KV} {v : Value} {X Y : World} (h : DL xb L v X) (hM : MapAt Try.prog 3 mb n m X) (k : But mb X Y) : DL xb L v Y := by
  rcases h with h | ⟨b, cv, h1, h2, h3, h4⟩
  · exact .inl h
  · refine .inr ⟨b, cv, h1, h2, h3, ?_⟩
    rcases Nat.eq_zero_or_pos L.length with h0 | h0
    · exact ⟨fun j hj => by omega, fun j hj => by omega, Nat.lt_of_lt_of_le h4.2.2 k.size⟩
    · refine h4.but k fun e => ?_
      subst e
      obtain ⟨es, clock, hb⟩ := map_heap hM
      have h5 := h4.1 0 (by omega)
      unfold World.cell? at h5
      rw [hb] at h5
      cases h5
/-- both, on their way -/
structure St (w : World) (sb mb xb : Nat) (L : List KV) (v : Value) (X : World) : Prop where
  so : SoAt sb mb L X
  dc : DcAt xb L v X
  ext : Ext w X
  ls : w.heap.size ≤ mb ∧ w.heap.size ≤ xb
  n1 : sb ≠ xb
  n2 : mb ≠ xb
section
variable {w X Y : World} {sb mb xb : Nat} {L L' : List KV} {v v' : Value}
theorem St.carry (h : St w sb mb xb L v X) (k : Ext X Y) : St w sb mb xb L v Y := ⟨h.so.ext k, h.dc.ext k, Ext.trans h.ext k, h.ls, h.n1, h.n2⟩
/-- the first one turned -/
structure St1 (w : World) (sb mb xb : Nat) (L L' : List KV) (v : Value) (X : World) : Prop where
  so : SoAt sb mb L' X
  dc : DcAt xb L v X
  ext : Ext w X
  ls : w.heap.size ≤ mb ∧ w.heap.size ≤ xb
  n1 : sb ≠ xb
  n2 : mb ≠ xb
theorem St1.carry (h : St1 w sb mb xb L L' v X) (k : Ext X Y) : St1 w sb mb xb L L' v Y := ⟨h.so.ext k, h.dc.ext k, Ext.trans h.ext k, h.ls, h.n1, h.n2⟩
theorem St.first (h : St w sb mb xb L v X) (hM : MapL mb L' Y) (k : But mb X Y) : St1 w sb mb xb L L' v Y :=
  ⟨h.so.turned k hM, ⟨h.dc.row.but k (Ne.symm h.n2), DL.but_map h.dc.sl h.so.map.at k, h.dc.ris⟩, Ext.but h.ext k h.ls.1, h.ls, h.n1, h.n2⟩
theorem St1.second (h : St1 w sb mb xb L L' v X) (hD : DcAt xb L' v' Y) (k : But xb X Y) : St w sb mb xb L' v' Y :=
  ⟨h.so.but k h.n1 h.n2, hD, Ext.but h.ext k h.ls.2, h.ls, h.n1, h.n2⟩
theorem RowAt.two {b n : Nat} {g : Nat → Value} (h : RowAt b n g X) (k : But mb X Y) (hb : b ≠ mb) : RowAt b n g Y := h.but k hb
theorem dc_nil {xb : Nat} {v : Value} {X : World} (h : RowAt xb 1 (fun _ => v) X) : DcAt xb [] (.slice none 0 0) (X.setCell ⟨xb, 0, none⟩ (.slice none 0 0)) ∧ But xb X (X.setCell ⟨xb, 0, none⟩ (.slice none 0 0)) :=
  ⟨⟨(h.set 0 _).congr fun j hj => by rw [if_pos (by omega)], .inl ⟨rfl, rfl⟩, .nil⟩, but_setCell _ _ _ _⟩
end
theorem St.extX {w X Y : World} {sb mb xb : Nat} {L : List KV} {v : Value} (h : St w sb mb xb L v X) (k : Ext X Y) : St w sb mb xb L v Y := h.carry k
set_option maxRecDepth 20000 in
set_option maxHeartbeats 4000000 in
theorem walk (av : Value) (w : World) (hA0 : AArg av w) : Calls Try.prog 8 #[av] w fun e w' => e = .returned (.bool true) ∧ Below w.heap.size w w' := by
  obtain ⟨ov, n, cap, rfl, hn, hA⟩ := hA0
  replace hA := hideit hA
  have hE := hideit (Ext.refl w)
  go_enter Try.func8, Try.ntmps8
  go_upto_region 0 with (fail)
  refine wp_region_lit ?_
  refine xm [some (.bool false)] (by kernel_rfl) (by simp [xr, go_sem]) ?_
  simp only [xw, p0, p1, p2, p3]
  go_upto_region 1 with (fail)
  refine wp_region_lit ?_
  refine wpList_call rfl (by simp [go_sem]) ((new_any w).mono ?_)
  rintro e y1 ⟨sb, mb, rfl, hSo, hX1, hl1, hl2⟩
  refine ⟨_, rfl, ?_⟩
  simp only [Act.put, List.setIfInBounds_toArray, List.set_cons_zero, List.set_cons_succ]
  replace hE := hideit (Ext.trans hE.out (hX1))
  have hlt1 := hSo.row.2.2
  have hlt2 := hSo.map.lt
  replace hSo := hideit hSo
  replace hl1 := hideit hl1
  replace hl2 := hideit hl2
  replace hlt1 := hideit hlt1
  replace hlt2 := hideit hlt2
  clear hX1
  refine xm [some (.agg #[.slice none 0 0])] (by kernel_rfl) (by simp [xr, go_sem]) ?_
  simp only [xw, p0, p1, p2, p3]
  have hr0 := row1_new y1 (.slice none 0 0) 63
  have hX2 : Ext y1 (y1.alloc (.cells #[.slice none 0 0] 63)) := (Below.refl _ _).alloc (Nat.le_refl _) _
  have hl3 := Below.size hE.out
  refine wpList_to rfl (.pointer (some ⟨y1.heap.size, 0, none⟩)) (y1.alloc (.cells #[.slice none 0 0] 63)) (by simp [go_sem]) ?_
  simp only [Act.put, List.setIfInBounds_toArray, List.set_cons_zero, List.set_cons_succ]
  generalize y1.alloc (.cells #[.slice none 0 0] 63) = y2 at hr0 hX2 ⊢
  obtain ⟨xb, exb⟩ : ∃ xb, xb = y1.heap.size := ⟨_, rfl⟩
  rw [← exb] at hr0 ⊢
  have hS0 : Hid (St w sb mb xb [] (.slice none 0 0) y2) := ⟨hSo.out.ext hX2, ⟨hr0, .inl ⟨rfl, rfl⟩, .nil⟩, Ext.trans hE.out hX2, ⟨hl1.out, by rw [exb]; exact hl3⟩, by rw [exb]; exact Nat.ne_of_lt hlt1.out, by rw [exb]; exact Nat.ne_of_lt hlt2.out⟩
  clear hr0 hX2 hl3 exb hSo hE hl1 hl2 hlt1 hlt2
  refine xm [some (.pointer (some ⟨sb, 0, none⟩)), some (.pointer (some ⟨xb, 0, none⟩))] (by kernel_rfl) (by simp [xr, go_sem]) ?_
  simp only [xw, p0, p1, p2, p3]
  go_upto_region 2 with (fail)
  refine wp_region_lit ?_
  refine wpList_call rfl (by simp [go_sem]) ((lives_any y2).mono ?_)
  rintro e y3 ⟨rfl, hX3⟩
  refine ⟨_, rfl, ?_⟩
  simp only [Act.put, List.setIfInBounds_toArray, List.set_cons_zero, List.set_cons_succ]
  replace hS0 := hideit (hS0.out.carry hX3)
  clear hX3
  refine xm [some (.bool false), some (.bool false), some (.pointer (some ⟨sb, 0, none⟩)), some (.bool false), some (.bool false), some (.bool false), some (.pointer (some ⟨sb, 0, none⟩))] (by kernel_rfl) (by simp [xr, go_sem]) ?_
  simp only [xw, p0, p1, p2, p3]
  refine wpList_callW rfl (by simp [go_sem]) ((all_box (some ⟨sb, 0, none⟩) y3).mono ?_)
  rintro e y4 ⟨ba, rfl, _, hX4⟩
  refine ⟨_, rfl, ?_⟩
  simp only [Act.put, List.setIfInBounds_toArray, List.set_cons_zero, List.set_cons_succ]
  replace hS0 := hideit (hS0.out.carry hX4)
  clear hX4
  refine xm [some (.bool false), some (.bool false)] (by kernel_rfl) (by simp [xr, go_sem, fnil]) ?_
  simp only [xw, p0, p1, p2, p3]
  go_upto_region 4 with (fail)
  refine wp_region_lit ?_
  refine xm [some (.int .i64 0)] (by kernel_rfl) (by simp [xr, go_sem]) ?_
  simp only [xw, p0, p1, p2, p3]
  go_wp2
  go_loopw [5] (fun iv X => ∃ (i : Nat) (L : List KV) (v : Value), iv = .int .i64 (i : Int) ∧ i ≤ n ∧ L.length ≤ i ∧ St w sb mb xb L v X) (fun iv _ => n - (intOf iv).toNat)
  case atStart => exact ⟨0, [], _, rfl, Nat.zero_le _, Nat.le_refl _, hS0.out⟩
  case round =>
    obtain ⟨i, L, v, rfl, hi, hLi, hSt⟩ := hrel
    clear hS0
    replace hSt := hideit hSt
    by_cases hlt : i < n
    · obtain ⟨ab, ao, k, m, t, hov, hok, hcl⟩ := hA.out i hlt
      have hmbl := hSt.out.so.map.lt
      have hxbl := hSt.out.dc.row.2.2
      have hri := hideit hSt.out.dc.ris
      have i1 : (i : Int) < (n : Int) := by omega
      have hcell : Hid (wr.rangeAt ab (ao + i * 3) (row 3 (actv k m t))) := fun j u hj => by
        obtain ⟨hj', rfl⟩ := row_some hj
        have e := hcl j hj'
        exact (Below.cell (St.ext hSt.out) (p := ⟨ab, ao + i * 3 + j, none⟩) (World.block_lt_of_cell? w _ e)).trans e
      clear hcl
      replace hok := hideit hok
      have hle : L.length ≤ 4398046511104 := by omega
      go_upto_region 5 with (fail)
      refine wp_region_lit ?_
      refine xm [some (.int .i64 (i : Int)), some (.slice ov n cap), some (.int .i64 (n : Int)), some (.bool true)] (by kernel_rfl) (by simp [xr, go_sem, i1]) ?_
      simp only [xw, p0, p1, p2, p3]
      go_upto_region 7 with (fail)
      refine wp_region_lit ?_
      refine xm [some (.slice ov n cap), some (.int .i64 (i : Int))] (by kernel_rfl) (by simp [xr, go_sem]) ?_
      simp only [xw, p0, p1, p2, p3]
      refine xm [some (.pointer (some ⟨ab, ao + i * 3, none⟩))] (by kernel_rfl) (by simp [xr, go_sem, i1, hov]) ?_
      simp only [xw, p0, p1, p2, p3]
      refine wpList_run rfl (.agg (row 3 (actv k m t)).toArray) (xload 68 (.tmp 34) rfl ab (ao + i * 3) 3 (actv k m t) rfl hcell.out Try.underlying68 rfl inf68) ?_
      simp only [Act.put, List.setIfInBounds_toArray, List.set_cons_zero, List.set_cons_succ]
      refine wpList_to rfl (.pointer (some ⟨wr.heap.size, 0, none⟩)) (wr.alloc (.cells (row 3 (actv 0 0 ByteArray.empty)).toArray 68)) (xalloc 68 _ rfl (zero68 _)) ?_
      simp only [Act.put, List.setIfInBounds_toArray, List.set_cons_zero, List.set_cons_succ]
      have N0 := hideit ((RowAt.new wr 3 (actv 0 0 ByteArray.empty) 68).cells (g' := actv k m t))
      have XE : Ext wr ((wr.alloc (.cells (row 3 (actv 0 0 ByteArray.empty)).toArray 68)).setCells wr.heap.size 0 (row 3 (actv k m t))) := below_setCells wr.heap.size (Nat.le_refl _) _ 0 _ ((Below.refl _ _).alloc (Nat.le_refl _) _)
      refine xst rfl ((wr.alloc (.cells (row 3 (actv 0 0 ByteArray.empty)).toArray 68)).setCells wr.heap.size 0 (row 3 (actv k m t))) (xstore 68 (.tmp 6) (.tmp 35) rfl wr.heap.size 3 _ (actv k m t) rfl rfl (RowAt.new wr 3 (actv 0 0 ByteArray.empty) 68) inf68 (act_one _ _ _)) ?_
      simp only [Act.put]
      generalize (wr.alloc (.cells (row 3 (actv 0 0 ByteArray.empty)).toArray 68)).setCells wr.heap.size 0 (row 3 (actv k m t)) = x1 at N0 XE ⊢
      obtain ⟨oz, eoz⟩ : ∃ b, b = wr.heap.size := ⟨_, rfl⟩
      have ABoz : Hid (wr.heap.size ≤ oz) := by rw [eoz]; exact Nat.le_refl _
      rw [← eoz] at N0  ⊢
      clear eoz
      have Hoz := N0
      clear N0
      replace hSt := hideit (hSt.out.carry XE)
      clear XE
      have hoz : Hid (oz ≠ mb ∧ oz ≠ xb) := ⟨by have := ABoz.out; omega, by have := ABoz.out; omega⟩
      clear hmbl hxbl
      go_upto_region 8 with (fail)
      refine wp_region_lit ?_
      refine xm [some (.bool true)] (by kernel_rfl) (by simp [xr, go_sem]) ?_
      simp only [xw, p0, p1, p2, p3]
      go_upto_region 9 with (fail)
      refine wp_region_lit ?_
      have m2 : x1.cell? ⟨oz, 0, none⟩ = some (.int .i64 (k)) := Hoz.out.1 0 (by decide)
      refine xm [some (.pointer (some ⟨oz, 0, none⟩)), some (.int .i64 (k))] (by kernel_rfl) (by simp [xr, go_sem, m2]) ?_
      simp only [xw, p0, p1, p2, p3]
      clear m2
      by_cases nk1 : k = 1
      · go_upto_region 10 with (fail)
        refine wp_region_lit ?_
        refine xm [some (.bool true), some (.bool true)] (by kernel_rfl) (by simp [xr, go_sem, nk1]) ?_
        simp only [xw, p0, p1, p2, p3]
        go_upto_region 11 with (fail)
        refine wp_region_lit ?_
        have m3 : x1.cell? ⟨oz, 1, none⟩ = some (.int .i64 (m)) := Hoz.out.1 1 (by decide)
        have m4 : x1.cell? ⟨oz, 2, none⟩ = some (.string t) := Hoz.out.1 2 (by decide)
        refine xm [some (.pointer (some ⟨sb, 0, none⟩)), some (.pointer (some ⟨oz, 1, none⟩)), some (.int .i64 (m)), some (.pointer (some ⟨oz, 2, none⟩)), some (.string t)] (by kernel_rfl) (by simp [xr, go_sem, m3, m4]) ?_
        simp only [xw, p0, p1, p2, p3]
        clear m3
        clear m4
        refine wpList_call rfl (by simp [go_sem]) ((set_go hSt.out.so hok.out (by unfold maxLen; omega) t).mono ?_)
        rintro e y7 ⟨rfl, hM7, hB7⟩
        refine ⟨_, rfl, ?_⟩
        simp only [Act.put, List.setIfInBounds_toArray, List.set_cons_zero, List.set_cons_succ]
        have hS7 := hideit (hSt.out.first hM7 hB7)
        replace Hoz := hideit (Hoz.out.but hB7 hoz.out.1)
        clear hM7 hB7 hSt
        go_upto_region 12 with (fail)
        refine wp_region_lit ?_
        have m5 : y7.cell? ⟨oz, 1, none⟩ = some (.int .i64 (m)) := Hoz.out.1 1 (by decide)
        have m6 : y7.cell? ⟨oz, 2, none⟩ = some (.string t) := Hoz.out.1 2 (by decide)
        refine xm [some (.pointer (some ⟨xb, 0, none⟩)), some (.pointer (some ⟨oz, 1, none⟩)), some (.int .i64 (m)), some (.pointer (some ⟨oz, 2, none⟩)), some (.string t)] (by kernel_rfl) (by simp [xr, go_sem, m5, m6]) ?_
        simp only [xw, p0, p1, p2, p3]
        clear m5
        clear m6
        refine wpList_call rfl (by simp [go_sem]) ((rset_go hS7.out.dc hle m t).mono ?_)
        rintro e y8 ⟨rfl, v8, hD8, hB8⟩
        refine ⟨_, rfl, ?_⟩
        simp only [Act.put, List.setIfInBounds_toArray, List.set_cons_zero, List.set_cons_succ]
        have hS8 := hideit (hS7.out.second hD8 hB8)
        replace Hoz := hideit (Hoz.out.but hB8 hoz.out.2)
        clear hD8 hB8 hS7
        obtain ⟨L9, hL9⟩ : ∃ L9, L9 = kset L m t := ⟨_, rfl⟩
        have hb9 : L9.length ≤ i + 1 := by rw [hL9]; have := kset_length hS8.out.dc.ris m t; rw [kset_length (by first | exact hri.out) m t]; split <;> omega
        rw [← hL9] at hS8
        clear hL9
        obtain ⟨ovx, cvx, hvx, _, _⟩ := hS8.out.dc.sl.form
        rw [hvx] at hS8
        clear hvx
        go_upto_region 22 with (fail)
        replace Hoz := hideit Hoz.out.drew
        replace hS8 := hideit (hS8.out.carry (Ext.draw (Ext.refl y8)))
        refine wp_region_lad (fun X => Ext y8.drew X) [(false, 0), (false, 1), (false, 2), (false, 3), (false, 5), (false, 6), (false, 7), (false, 8), (false, 9), (true, 4), (false, 10), (false, 11), (false, 12), (false, 13), (false, 14), (false, 15), (false, 16), (true, 17), (false, 18), (false, 19)] (by kernel_rfl) (by kernel_rfl) (by decide +kernel) (by decide +kernel) (by decide +kernel) (by decide +kernel) (Ext.refl _) ?_
        refine wpX_f _ (.bool true) rfl rfl (fun X _ => by simp [go_sem]) ?_
        simp only [List.getElem_toArray, List.getElem_cons_zero, Act.put, List.setIfInBounds_toArray, List.set_cons_zero, List.set_cons_succ]
        refine wpX_f _ (.bool false) rfl rfl (fun X _ => by simp [go_sem]) ?_
        simp only [List.getElem_toArray, List.getElem_cons_zero, List.getElem_cons_succ, Act.put, List.setIfInBounds_toArray, List.set_cons_zero, List.set_cons_succ]
        refine wpX_f _ (.bool false) rfl rfl (fun X _ => by simp [go_sem]) ?_
        simp only [List.getElem_toArray, List.getElem_cons_zero, List.getElem_cons_succ, Act.put, List.setIfInBounds_toArray, List.set_cons_zero, List.set_cons_succ]
        refine wpX_f _ (.pointer (some ⟨sb, 0, none⟩)) rfl rfl (fun X _ => by simp [go_sem]) ?_
        simp only [List.getElem_toArray, List.getElem_cons_zero, List.getElem_cons_succ, Act.put, List.setIfInBounds_toArray, List.set_cons_zero, List.set_cons_succ]
        refine wpX_f _ (.pointer (some ⟨xb, 0, none⟩)) rfl rfl (fun X _ => by simp [go_sem]) ?_
        simp only [List.getElem_toArray, List.getElem_cons_zero, List.getElem_cons_succ, Act.put, List.setIfInBounds_toArray, List.set_cons_zero, List.set_cons_succ]
        refine wpX_f _ (.pointer (some ⟨xb, 0, none⟩)) rfl rfl (fun X _ => by simp [go_sem]) ?_
        simp only [List.getElem_toArray, List.getElem_cons_zero, List.getElem_cons_succ, Act.put, List.setIfInBounds_toArray, List.set_cons_zero, List.set_cons_succ]
        refine wpX_f _ (.pointer (some ⟨xb, 0, none⟩)) rfl rfl (fun X _ => by simp [go_sem]) ?_
        simp only [List.getElem_toArray, List.getElem_cons_zero, List.getElem_cons_succ, Act.put, List.setIfInBounds_toArray, List.set_cons_zero, List.set_cons_succ]
        refine wpX_f _ (.slice ovx L9.length cvx) rfl rfl (fun X hX => by have mm : X.cell? ⟨xb, 0, none⟩ = some (.slice ovx L9.length cvx) := (hS8.out.carry hX).dc.row.1 0 (by decide); simp [go_sem, mm]) ?_
        simp only [List.getElem_toArray, List.getElem_cons_zero, List.getElem_cons_succ, Act.put, List.setIfInBounds_toArray, List.set_cons_zero, List.set_cons_succ]
        refine wpX_f _ (.int .i64 (L9.length : Int)) rfl rfl (fun X _ => by simp [go_sem]) ?_
        simp only [List.getElem_toArray, List.getElem_cons_zero, List.getElem_cons_succ, Act.put, List.setIfInBounds_toArray, List.set_cons_zero, List.set_cons_succ]
        refine wpX_call _ rfl rfl (by simp [go_sem]) ((len_go hS8.out.so).mono ?_)
        rintro e _ ⟨rfl, rfl⟩
        refine ⟨_, rfl, fun X => Ext y8.drew X, fun X hX => hX, Ext.refl _, ?_⟩
        simp only [List.getElem_toArray, List.getElem_cons_zero, List.getElem_cons_succ, Act.put, List.setIfInBounds_toArray, List.set_cons_zero, List.set_cons_succ]
        refine wpX_f _ (.bool false) rfl rfl (fun X _ => by simp [go_sem]) ?_
        simp only [List.getElem_toArray, List.getElem_cons_zero, List.getElem_cons_succ, Act.put, List.setIfInBounds_toArray, List.set_cons_zero, List.set_cons_succ]
        refine wpX_f _ (.bool false) rfl rfl (fun X _ => by simp [go_sem]) ?_
        simp only [List.getElem_toArray, List.getElem_cons_zero, List.getElem_cons_succ, Act.put, List.setIfInBounds_toArray, List.set_cons_zero, List.set_cons_succ]
        refine wpX_f _ (.bool false) rfl rfl (fun X _ => by simp [go_sem]) ?_
        simp only [List.getElem_toArray, List.getElem_cons_zero, List.getElem_cons_succ, Act.put, List.setIfInBounds_toArray, List.set_cons_zero, List.set_cons_succ]
        refine wpX_f _ (.pointer (some ⟨sb, 0, none⟩)) rfl rfl (fun X _ => by simp [go_sem]) ?_
        simp only [List.getElem_toArray, List.getElem_cons_zero, List.getElem_cons_succ, Act.put, List.setIfInBounds_toArray, List.set_cons_zero, List.set_cons_succ]
        refine wpX_f _ (.pointer (some ⟨xb, 0, none⟩)) rfl rfl (fun X _ => by simp [go_sem]) ?_
        simp only [List.getElem_toArray, List.getElem_cons_zero, List.getElem_cons_succ, Act.put, List.setIfInBounds_toArray, List.set_cons_zero, List.set_cons_succ]
        refine wpX_f _ (.pointer (some ⟨oz, 1, none⟩)) rfl rfl (fun X _ => by simp [go_sem]) ?_
        simp only [List.getElem_toArray, List.getElem_cons_zero, List.getElem_cons_succ, Act.put, List.setIfInBounds_toArray, List.set_cons_zero, List.set_cons_succ]
        refine wpX_f _ (.int .i64 (m)) rfl rfl (fun X hX => by have m7 : X.cell? ⟨oz, 1, none⟩ = some (.int .i64 (m)) := (Hoz.out.carry hX).1 1 (by decide); simp [go_sem, m7]) ?_
        simp only [List.getElem_toArray, List.getElem_cons_zero, List.getElem_cons_succ, Act.put, List.setIfInBounds_toArray, List.set_cons_zero, List.set_cons_succ]
        refine wpX_call _ rfl rfl (by simp [go_sem]) ((over_go hS8.out.so hS8.out.dc (by omega) m).mono ?_)
        rintro e y9 ⟨rfl, hX9⟩
        refine ⟨_, rfl, fun X => Ext y9 X, fun X hX => Ext.trans hX9 hX, Ext.refl _, ?_⟩
        simp only [List.getElem_toArray, List.getElem_cons_zero, List.getElem_cons_succ, Act.put, List.setIfInBounds_toArray, List.set_cons_zero, List.set_cons_succ]
        replace Hoz := hideit (Hoz.out.carry hX9)
        replace hS8 := hideit (hS8.out.carry hX9)
        clear hX9
        refine wpX_f _ (.bool false) rfl rfl (fun X _ => by simp [go_sem]) ?_
        simp only [List.getElem_toArray, List.getElem_cons_zero, List.getElem_cons_succ, Act.put, List.setIfInBounds_toArray, List.set_cons_zero, List.set_cons_succ]
        refine wpX_f _ (.bool false) rfl rfl (fun X _ => by simp [go_sem]) ?_
        simp only [List.getElem_toArray, List.getElem_cons_zero, List.getElem_cons_succ, Act.put, List.setIfInBounds_toArray, List.set_cons_zero, List.set_cons_succ]
        refine wpX_nil ?_
        go_wp2
        exact ⟨⟨i + 1, L9, _, by go_num, by omega, hb9, hS8.out⟩, by simp [intOf]; omega⟩
      · by_cases nk2 : k = 2
        · go_upto_region 10 with (fail)
          refine wp_region_lit ?_
          refine xm [some (.bool false), some (.bool false)] (by kernel_rfl) (by simp [xr, go_sem, nk1]) ?_
          simp only [xw, p0, p1, p2, p3]
          go_upto_region 13 with (fail)
          refine wp_region_lit ?_
          refine xm [some (.bool true), some (.bool true)] (by kernel_rfl) (by simp [xr, go_sem, nk2]) ?_
          simp only [xw, p0, p1, p2, p3]
          go_upto_region 14 with (fail)
          refine wp_region_lit ?_
          have m3 : x1.cell? ⟨oz, 1, none⟩ = some (.int .i64 (m)) := Hoz.out.1 1 (by decide)
          refine xm [some (.pointer (some ⟨sb, 0, none⟩)), some (.pointer (some ⟨oz, 1, none⟩)), some (.int .i64 (m))] (by kernel_rfl) (by simp [xr, go_sem, m3]) ?_
          simp only [xw, p0, p1, p2, p3]
          clear m3
          obtain ⟨gs, hgs⟩ : ∃ gs, gs = (kget L m).getD ByteArray.empty := ⟨_, rfl⟩
          obtain ⟨gb, hgb⟩ : ∃ gb, gb = (kget L m).isSome := ⟨_, rfl⟩
          have kG := hideit (get_go hSt.out.so hok.out)
          have kR := hideit (rget_go hSt.out.dc hle m)
          rw [← hgs, ← hgb] at kG kR
          clear hgs hgb
          refine wpList_call rfl (by simp [go_sem]) ((kG.out).mono ?_)
          rintro e y7 ⟨rfl, hy7⟩
          refine ⟨_, rfl, ?_⟩
          simp only [Act.put, List.setIfInBounds_toArray, List.set_cons_zero, List.set_cons_succ]
          replace hy7 := hy7.symm
          subst hy7
          clear kG
          refine xm [some (.tuple #[.string (gs), .bool (gb)]), some (.string (gs)), some (.bool (gb)), some (.string (gs)), some (.bool (gb))] (by kernel_rfl) (by simp [xr, go_sem]) ?_
          simp only [xw, p0, p1, p2, p3]
          go_upto_region 15 with (fail)
          refine wp_region_lit ?_
          have m4 : x1.cell? ⟨oz, 1, none⟩ = some (.int .i64 (m)) := Hoz.out.1 1 (by decide)
          refine xm [some (.pointer (some ⟨xb, 0, none⟩)), some (.pointer (some ⟨oz, 1, none⟩)), some (.int .i64 (m))] (by kernel_rfl) (by simp [xr, go_sem, m4]) ?_
          simp only [xw, p0, p1, p2, p3]
          clear m4
          refine wpList_call rfl (by simp [go_sem]) ((kR.out).mono ?_)
          rintro e y8 ⟨rfl, hy8⟩
          refine ⟨_, rfl, ?_⟩
          simp only [Act.put, List.setIfInBounds_toArray, List.set_cons_zero, List.set_cons_succ]
          replace hy8 := hy8.symm
          subst hy8
          clear kR
          refine xm [some (.tuple #[.string (gs), .bool (gb)]), some (.string (gs)), some (.bool (gb)), some (.string (gs)), some (.bool (gb))] (by kernel_rfl) (by simp [xr, go_sem]) ?_
          simp only [xw, p0, p1, p2, p3]
          go_upto_region 16 with (fail)
          refine wp_region_lit ?_
          refine xm [some (.string (gs)), some (.string (gs))] (by kernel_rfl) (by simp [xr, go_sem]) ?_
          simp only [xw, p0, p1, p2, p3]
          refine xm [some (.bool true), some (.bool true), some (.bool (gb)), some (.bool (gb))] (by kernel_rfl) (by simp [xr, go_sem]) ?_
          simp only [xw, p0, p1, p2, p3]
          refine xm [some (.bool true), some (.bool true), some (.bool true)] (by kernel_rfl) (by simp [xr, go_sem]) ?_
          simp only [xw, p0, p1, p2, p3]
          obtain ⟨L9, hL9⟩ : ∃ L9, L9 = L := ⟨_, rfl⟩
          have hb9 : L9.length ≤ i + 1 := by rw [hL9]; omega
          rw [← hL9] at hSt
          clear hL9
          obtain ⟨ovx, cvx, hvx, _, _⟩ := hSt.out.dc.sl.form
          rw [hvx] at hSt
          clear hvx
          go_upto_region 22 with (fail)
          replace Hoz := hideit Hoz.out.drew
          replace hSt := hideit (hSt.out.carry (Ext.draw (Ext.refl x1)))
          refine wp_region_lad (fun X => Ext x1.drew X) [(false, 0), (false, 1), (false, 2), (false, 3), (false, 5), (false, 6), (false, 7), (false, 8), (false, 9), (true, 4), (false, 10), (false, 11), (false, 12), (false, 13), (false, 14), (false, 15), (false, 16), (true, 17), (false, 18), (false, 19)] (by kernel_rfl) (by kernel_rfl) (by decide +kernel) (by decide +kernel) (by decide +kernel) (by decide +kernel) (Ext.refl _) ?_
          refine wpX_f _ (.bool true) rfl rfl (fun X _ => by simp [go_sem]) ?_
          simp only [List.getElem_toArray, List.getElem_cons_zero, Act.put, List.setIfInBounds_toArray, List.set_cons_zero, List.set_cons_succ]
          refine wpX_f _ (.bool false) rfl rfl (fun X _ => by simp [go_sem]) ?_
          simp only [List.getElem_toArray, List.getElem_cons_zero, List.getElem_cons_succ, Act.put, List.setIfInBounds_toArray, List.set_cons_zero, List.set_cons_succ]
          refine wpX_f _ (.bool false) rfl rfl (fun X _ => by simp [go_sem]) ?_
          simp only [List.getElem_toArray, List.getElem_cons_zero, List.getElem_cons_succ, Act.put, List.setIfInBounds_toArray, List.set_cons_zero, List.set_cons_succ]
          refine wpX_f _ (.pointer (some ⟨sb, 0, none⟩)) rfl rfl (fun X _ => by simp [go_sem]) ?_
          simp only [List.getElem_toArray, List.getElem_cons_zero, List.getElem_cons_succ, Act.put, List.setIfInBounds_toArray, List.set_cons_zero, List.set_cons_succ]
          refine wpX_f _ (.pointer (some ⟨xb, 0, none⟩)) rfl rfl (fun X _ => by simp [go_sem]) ?_
          simp only [List.getElem_toArray, List.getElem_cons_zero, List.getElem_cons_succ, Act.put, List.setIfInBounds_toArray, List.set_cons_zero, List.set_cons_succ]
          refine wpX_f _ (.pointer (some ⟨xb, 0, none⟩)) rfl rfl (fun X _ => by simp [go_sem]) ?_
          simp only [List.getElem_toArray, List.getElem_cons_zero, List.getElem_cons_succ, Act.put, List.setIfInBounds_toArray, List.set_cons_zero, List.set_cons_succ]
          refine wpX_f _ (.pointer (some ⟨xb, 0, none⟩)) rfl rfl (fun X _ => by simp [go_sem]) ?_
          simp only [List.getElem_toArray, List.getElem_cons_zero, List.getElem_cons_succ, Act.put, List.setIfInBounds_toArray, List.set_cons_zero, List.set_cons_succ]
          refine wpX_f _ (.slice ovx L9.length cvx) rfl rfl (fun X hX => by have mm : X.cell? ⟨xb, 0, none⟩ = some (.slice ovx L9.length cvx) := (hSt.out.carry hX).dc.row.1 0 (by decide); simp [go_sem, mm]) ?_
          simp only [List.getElem_toArray, List.getElem_cons_zero, List.getElem_cons_succ, Act.put, List.setIfInBounds_toArray, List.set_cons_zero, List.set_cons_succ]
          refine wpX_f _ (.int .i64 (L9.length : Int)) rfl rfl (fun X _ => by simp [go_sem]) ?_
          simp only [List.getElem_toArray, List.getElem_cons_zero, List.getElem_cons_succ, Act.put, List.setIfInBounds_toArray, List.set_cons_zero, List.set_cons_succ]
          refine wpX_call _ rfl rfl (by simp [go_sem]) ((len_go hSt.out.so).mono ?_)
          rintro e _ ⟨rfl, rfl⟩
          refine ⟨_, rfl, fun X => Ext x1.drew X, fun X hX => hX, Ext.refl _, ?_⟩
          simp only [List.getElem_toArray, List.getElem_cons_zero, List.getElem_cons_succ, Act.put, List.setIfInBounds_toArray, List.set_cons_zero, List.set_cons_succ]
          refine wpX_f _ (.bool false) rfl rfl (fun X _ => by simp [go_sem]) ?_
          simp only [List.getElem_toArray, List.getElem_cons_zero, List.getElem_cons_succ, Act.put, List.setIfInBounds_toArray, List.set_cons_zero, List.set_cons_succ]
          refine wpX_f _ (.bool false) rfl rfl (fun X _ => by simp [go_sem]) ?_
          simp only [List.getElem_toArray, List.getElem_cons_zero, List.getElem_cons_succ, Act.put, List.setIfInBounds_toArray, List.set_cons_zero, List.set_cons_succ]
          refine wpX_f _ (.bool false) rfl rfl (fun X _ => by simp [go_sem]) ?_
          simp only [List.getElem_toArray, List.getElem_cons_zero, List.getElem_cons_succ, Act.put, List.setIfInBounds_toArray, List.set_cons_zero, List.set_cons_succ]
          refine wpX_f _ (.pointer (some ⟨sb, 0, none⟩)) rfl rfl (fun X _ => by simp [go_sem]) ?_
          simp only [List.getElem_toArray, List.getElem_cons_zero, List.getElem_cons_succ, Act.put, List.setIfInBounds_toArray, List.set_cons_zero, List.set_cons_succ]
          refine wpX_f _ (.pointer (some ⟨xb, 0, none⟩)) rfl rfl (fun X _ => by simp [go_sem]) ?_
          simp only [List.getElem_toArray, List.getElem_cons_zero, List.getElem_cons_succ, Act.put, List.setIfInBounds_toArray, List.set_cons_zero, List.set_cons_succ]
          refine wpX_f _ (.pointer (some ⟨oz, 1, none⟩)) rfl rfl (fun X _ => by simp [go_sem]) ?_
          simp only [List.getElem_toArray, List.getElem_cons_zero, List.getElem_cons_succ, Act.put, List.setIfInBounds_toArray, List.set_cons_zero, List.set_cons_succ]
          refine wpX_f _ (.int .i64 (m)) rfl rfl (fun X hX => by have m5 : X.cell? ⟨oz, 1, none⟩ = some (.int .i64 (m)) := (Hoz.out.carry hX).1 1 (by decide); simp [go_sem, m5]) ?_
          simp only [List.getElem_toArray, List.getElem_cons_zero, List.getElem_cons_succ, Act.put, List.setIfInBounds_toArray, List.set_cons_zero, List.set_cons_succ]
          refine wpX_call _ rfl rfl (by simp [go_sem]) ((over_go hSt.out.so hSt.out.dc (by omega) m).mono ?_)
          rintro e y9 ⟨rfl, hX9⟩
          refine ⟨_, rfl, fun X => Ext y9 X, fun X hX => Ext.trans hX9 hX, Ext.refl _, ?_⟩
          simp only [List.getElem_toArray, List.getElem_cons_zero, List.getElem_cons_succ, Act.put, List.setIfInBounds_toArray, List.set_cons_zero, List.set_cons_succ]
          replace Hoz := hideit (Hoz.out.carry hX9)
          replace hSt := hideit (hSt.out.carry hX9)
          clear hX9
          refine wpX_f _ (.bool false) rfl rfl (fun X _ => by simp [go_sem]) ?_
          simp only [List.getElem_toArray, List.getElem_cons_zero, List.getElem_cons_succ, Act.put, List.setIfInBounds_toArray, List.set_cons_zero, List.set_cons_succ]
          refine wpX_f _ (.bool false) rfl rfl (fun X _ => by simp [go_sem]) ?_
          simp only [List.getElem_toArray, List.getElem_cons_zero, List.getElem_cons_succ, Act.put, List.setIfInBounds_toArray, List.set_cons_zero, List.set_cons_succ]
          refine wpX_nil ?_
          go_wp2
          exact ⟨⟨i + 1, L9, _, by go_num, by omega, hb9, hSt.out⟩, by simp [intOf]; omega⟩
        · by_cases nk3 : k = 3
          · go_upto_region 10 with (fail)
            refine wp_region_lit ?_
            refine xm [some (.bool false), some (.bool false)] (by kernel_rfl) (by simp [xr, go_sem, nk1]) ?_
            simp only [xw, p0, p1, p2, p3]
            go_upto_region 13 with (fail)
            refine wp_region_lit ?_
            refine xm [some (.bool false), some (.bool false)] (by kernel_rfl) (by simp [xr, go_sem, nk2]) ?_
            simp only [xw, p0, p1, p2, p3]
            go_upto_region 17 with (fail)
            refine wp_region_lit ?_
            refine xm [some (.bool true), some (.bool true)] (by kernel_rfl) (by simp [xr, go_sem, nk3]) ?_
            simp only [xw, p0, p1, p2, p3]
            obtain ⟨gb, hgb⟩ : ∃ gb, gb = (kget L m).isSome := ⟨_, rfl⟩
            have kG := hideit (del_go (hSt.out.so.ext (Ext.refl x1).draw) hok.out)
            rw [← hgb] at kG
            replace hSt := hideit (hSt.out.carry (Ext.refl x1).draw)
            replace Hoz := hideit Hoz.out.drew
            go_upto_region 18 with (fail)
            refine wp_region_lad (fun X => X.cell? ⟨oz, 1, none⟩ = some (.int .i64 m)) [(false, 0), (false, 1), (false, 2), (false, 4), (false, 5), (false, 6), (true, 3), (true, 7), (false, 8), (false, 9)] (by kernel_rfl) (by kernel_rfl) (by decide +kernel) (by decide +kernel) (by decide +kernel) (by decide +kernel) (Hoz.out.1 1 (by decide)) ?_
            refine wpX_f _ (.pointer (some ⟨sb, 0, none⟩)) rfl rfl (fun X _ => by simp [go_sem]) ?_
            simp only [List.getElem_toArray, List.getElem_cons_zero, Act.put, List.setIfInBounds_toArray, List.set_cons_zero, List.set_cons_succ]
            refine wpX_f _ (.pointer (some ⟨oz, 1, none⟩)) rfl rfl (fun X _ => by simp [go_sem]) ?_
            simp only [List.getElem_toArray, List.getElem_cons_zero, List.getElem_cons_succ, Act.put, List.setIfInBounds_toArray, List.set_cons_zero, List.set_cons_succ]
            refine wpX_f _ (.int .i64 m) rfl rfl (fun X hX => by simp [go_sem, hX]) ?_
            simp only [List.getElem_toArray, List.getElem_cons_zero, List.getElem_cons_succ, Act.put, List.setIfInBounds_toArray, List.set_cons_zero, List.set_cons_succ]
            refine wpX_f _ (.pointer (some ⟨xb, 0, none⟩)) rfl rfl (fun X _ => by simp [go_sem]) ?_
            simp only [List.getElem_toArray, List.getElem_cons_zero, List.getElem_cons_succ, Act.put, List.setIfInBounds_toArray, List.set_cons_zero, List.set_cons_succ]
            refine wpX_f _ (.pointer (some ⟨oz, 1, none⟩)) rfl rfl (fun X _ => by simp [go_sem]) ?_
            simp only [List.getElem_toArray, List.getElem_cons_zero, List.getElem_cons_succ, Act.put, List.setIfInBounds_toArray, List.set_cons_zero, List.set_cons_succ]
            refine wpX_f _ (.int .i64 m) rfl rfl (fun X hX => by simp [go_sem, hX]) ?_
            simp only [List.getElem_toArray, List.getElem_cons_zero, List.getElem_cons_succ, Act.put, List.setIfInBounds_toArray, List.set_cons_zero, List.set_cons_succ]
            refine wpX_call _ rfl rfl (by simp [go_sem]) (kG.out.mono ?_)
            rintro e y7 ⟨rfl, hM7, hB7⟩
            have hS7 := hideit (hSt.out.first hM7 hB7)
            replace Hoz := hideit (Hoz.out.but hB7 hoz.out.1)
            clear hM7 hB7 hSt kG
            have kR := hideit (rdel_go hS7.out.dc hle m)
            rw [← hgb] at kR
            refine ⟨_, rfl, fun X => X.cell? ⟨oz, 1, none⟩ = some (.int .i64 m), fun X hX => hX, Hoz.out.1 1 (by decide), ?_⟩
            simp only [List.getElem_toArray, List.getElem_cons_zero, List.getElem_cons_succ, Act.put, List.setIfInBounds_toArray, List.set_cons_zero, List.set_cons_succ]
            refine wpX_call _ rfl rfl (by simp [go_sem]) (kR.out.mono ?_)
            rintro e y8 ⟨rfl, v8, hD8, hB8⟩
            have hS8 := hideit (hS7.out.second hD8 hB8)
            replace Hoz := hideit (Hoz.out.but hB8 hoz.out.2)
            clear hD8 hB8 hS7 kR
            refine ⟨_, rfl, fun X => X.cell? ⟨oz, 1, none⟩ = some (.int .i64 m), fun X hX => hX, Hoz.out.1 1 (by decide), ?_⟩
            simp only [List.getElem_toArray, List.getElem_cons_zero, List.getElem_cons_succ, Act.put, List.setIfInBounds_toArray, List.set_cons_zero, List.set_cons_succ]
            refine wpX_f _ (.bool true) rfl rfl (fun X _ => by simp [go_sem]) ?_
            simp only [List.getElem_toArray, List.getElem_cons_zero, List.getElem_cons_succ, Act.put, List.setIfInBounds_toArray, List.set_cons_zero, List.set_cons_succ]
            refine wpX_f _ (.bool true) rfl rfl (fun X _ => by simp [go_sem]) ?_
            simp only [List.getElem_toArray, List.getElem_cons_zero, List.getElem_cons_succ, Act.put, List.setIfInBounds_toArray, List.set_cons_zero, List.set_cons_succ]
            refine wpX_nil ?_
            clear hgb
            obtain ⟨L9, hL9⟩ : ∃ L9, L9 = kdel L m := ⟨_, rfl⟩
            have hb9 : L9.length ≤ i + 1 := by rw [hL9]; have := kdel_length hri.out m; omega
            rw [← hL9] at hS8
            clear hL9
            obtain ⟨ovx, cvx, hvx, _, _⟩ := hS8.out.dc.sl.form
            rw [hvx] at hS8
            clear hvx
            go_upto_region 22 with (fail)
            replace Hoz := hideit Hoz.out.drew
            replace hS8 := hideit (hS8.out.carry (Ext.draw (Ext.refl y8)))
            refine wp_region_lad (fun X => Ext y8.drew X) [(false, 0), (false, 1), (false, 2), (false, 3), (false, 5), (false, 6), (false, 7), (false, 8), (false, 9), (true, 4), (false, 10), (false, 11), (false, 12), (false, 13), (false, 14), (false, 15), (false, 16), (true, 17), (false, 18), (false, 19)] (by kernel_rfl) (by kernel_rfl) (by decide +kernel) (by decide +kernel) (by decide +kernel) (by decide +kernel) (Ext.refl _) ?_
            refine wpX_f _ (.bool true) rfl rfl (fun X _ => by simp [go_sem]) ?_
            simp only [List.getElem_toArray, List.getElem_cons_zero, Act.put, List.setIfInBounds_toArray, List.set_cons_zero, List.set_cons_succ]
            refine wpX_f _ (.bool false) rfl rfl (fun X _ => by simp [go_sem]) ?_
            simp only [List.getElem_toArray, List.getElem_cons_zero, List.getElem_cons_succ, Act.put, List.setIfInBounds_toArray, List.set_cons_zero, List.set_cons_succ]
            refine wpX_f _ (.bool false) rfl rfl (fun X _ => by simp [go_sem]) ?_
            simp only [List.getElem_toArray, List.getElem_cons_zero, List.getElem_cons_succ, Act.put, List.setIfInBounds_toArray, List.set_cons_zero, List.set_cons_succ]
            refine wpX_f _ (.pointer (some ⟨sb, 0, none⟩)) rfl rfl (fun X _ => by simp [go_sem]) ?_
            simp only [List.getElem_toArray, List.getElem_cons_zero, List.getElem_cons_succ, Act.put, List.setIfInBounds_toArray, List.set_cons_zero, List.set_cons_succ]
            refine wpX_f _ (.pointer (some ⟨xb, 0, none⟩)) rfl rfl (fun X _ => by simp [go_sem]) ?_
            simp only [List.getElem_toArray, List.getElem_cons_zero, List.getElem_cons_succ, Act.put, List.setIfInBounds_toArray, List.set_cons_zero, List.set_cons_succ]
            refine wpX_f _ (.pointer (some ⟨xb, 0, none⟩)) rfl rfl (fun X _ => by simp [go_sem]) ?_
            simp only [List.getElem_toArray, List.getElem_cons_zero, List.getElem_cons_succ, Act.put, List.setIfInBounds_toArray, List.set_cons_zero, List.set_cons_succ]
            refine wpX_f _ (.pointer (some ⟨xb, 0, none⟩)) rfl rfl (fun X _ => by simp [go_sem]) ?_
            simp only [List.getElem_toArray, List.getElem_cons_zero, List.getElem_cons_succ, Act.put, List.setIfInBounds_toArray, List.set_cons_zero, List.set_cons_succ]
            refine wpX_f _ (.slice ovx L9.length cvx) rfl rfl (fun X hX => by have mm : X.cell? ⟨xb, 0, none⟩ = some (.slice ovx L9.length cvx) := (hS8.out.carry hX).dc.row.1 0 (by decide); simp [go_sem, mm]) ?_
            simp only [List.getElem_toArray, List.getElem_cons_zero, List.getElem_cons_succ, Act.put, List.setIfInBounds_toArray, List.set_cons_zero, List.set_cons_succ]
            refine wpX_f _ (.int .i64 (L9.length : Int)) rfl rfl (fun X _ => by simp [go_sem]) ?_
            simp only [List.getElem_toArray, List.getElem_cons_zero, List.getElem_cons_succ, Act.put, List.setIfInBounds_toArray, List.set_cons_zero, List.set_cons_succ]
            refine wpX_call _ rfl rfl (by simp [go_sem]) ((len_go hS8.out.so).mono ?_)
            rintro e _ ⟨rfl, rfl⟩
            refine ⟨_, rfl, fun X => Ext y8.drew X, fun X hX => hX, Ext.refl _, ?_⟩
            simp only [List.getElem_toArray, List.getElem_cons_zero, List.getElem_cons_succ, Act.put, List.setIfInBounds_toArray, List.set_cons_zero, List.set_cons_succ]
            refine wpX_f _ (.bool false) rfl rfl (fun X _ => by simp [go_sem]) ?_
            simp only [List.getElem_toArray, List.getElem_cons_zero, List.getElem_cons_succ, Act.put, List.setIfInBounds_toArray, List.set_cons_zero, List.set_cons_succ]
            refine wpX_f _ (.bool false) rfl rfl (fun X _ => by simp [go_sem]) ?_
            simp only [List.getElem_toArray, List.getElem_cons_zero, List.getElem_cons_succ, Act.put, List.setIfInBounds_toArray, List.set_cons_zero, List.set_cons_succ]
            refine wpX_f _ (.bool false) rfl rfl (fun X _ => by simp [go_sem]) ?_
            simp only [List.getElem_toArray, List.getElem_cons_zero, List.getElem_cons_succ, Act.put, List.setIfInBounds_toArray, List.set_cons_zero, List.set_cons_succ]
            refine wpX_f _ (.pointer (some ⟨sb, 0, none⟩)) rfl rfl (fun X _ => by simp [go_sem]) ?_
            simp only [List.getElem_toArray, List.getElem_cons_zero, List.getElem_cons_succ, Act.put, List.setIfInBounds_toArray, List.set_cons_zero, List.set_cons_succ]
            refine wpX_f _ (.pointer (some ⟨xb, 0, none⟩)) rfl rfl (fun X _ => by simp [go_sem]) ?_
            simp only [List.getElem_toArray, List.getElem_cons_zero, List.getElem_cons_succ, Act.put, List.setIfInBounds_toArray, List.set_cons_zero, List.set_cons_succ]
            refine wpX_f _ (.pointer (some ⟨oz, 1, none⟩)) rfl rfl (fun X _ => by simp [go_sem]) ?_
            simp only [List.getElem_toArray, List.getElem_cons_zero, List.getElem_cons_succ, Act.put, List.setIfInBounds_toArray, List.set_cons_zero, List.set_cons_succ]
            refine wpX_f _ (.int .i64 (m)) rfl rfl (fun X hX => by have m3 : X.cell? ⟨oz, 1, none⟩ = some (.int .i64 (m)) := (Hoz.out.carry hX).1 1 (by decide); simp [go_sem, m3]) ?_
            simp only [List.getElem_toArray, List.getElem_cons_zero, List.getElem_cons_succ, Act.put, List.setIfInBounds_toArray, List.set_cons_zero, List.set_cons_succ]
            refine wpX_call _ rfl rfl (by simp [go_sem]) ((over_go hS8.out.so hS8.out.dc (by omega) m).mono ?_)
            rintro e y9 ⟨rfl, hX9⟩
            refine ⟨_, rfl, fun X => Ext y9 X, fun X hX => Ext.trans hX9 hX, Ext.refl _, ?_⟩
            simp only [List.getElem_toArray, List.getElem_cons_zero, List.getElem_cons_succ, Act.put, List.setIfInBounds_toArray, List.set_cons_zero, List.set_cons_succ]
            replace Hoz := hideit (Hoz.out.carry hX9)
            replace hS8 := hideit (hS8.out.carry hX9)
            clear hX9
            refine wpX_f _ (.bool false) rfl rfl (fun X _ => by simp [go_sem]) ?_
            simp only [List.getElem_toArray, List.getElem_cons_zero, List.getElem_cons_succ, Act.put, List.setIfInBounds_toArray, List.set_cons_zero, List.set_cons_succ]
            refine wpX_f _ (.bool false) rfl rfl (fun X _ => by simp [go_sem]) ?_
            simp only [List.getElem_toArray, List.getElem_cons_zero, List.getElem_cons_succ, Act.put, List.setIfInBounds_toArray, List.set_cons_zero, List.set_cons_succ]
            refine wpX_nil ?_
            go_wp2
            exact ⟨⟨i + 1, L9, _, by go_num, by omega, hb9, hS8.out⟩, by simp [intOf]; omega⟩
          · by_cases nk4 : k = 4
            · go_upto_region 10 with (fail)
              refine wp_region_lit ?_
              refine xm [some (.bool false), some (.bool false)] (by kernel_rfl) (by simp [xr, go_sem, nk1]) ?_
              simp only [xw, p0, p1, p2, p3]
              go_upto_region 13 with (fail)
              refine wp_region_lit ?_
              refine xm [some (.bool false), some (.bool false)] (by kernel_rfl) (by simp [xr, go_sem, nk2]) ?_
              simp only [xw, p0, p1, p2, p3]
              go_upto_region 17 with (fail)
              refine wp_region_lit ?_
              refine xm [some (.bool false), some (.bool false)] (by kernel_rfl) (by simp [xr, go_sem, nk3]) ?_
              simp only [xw, p0, p1, p2, p3]
              go_upto_region 19 with (fail)
              refine wp_region_lit ?_
              refine xm [some (.bool true), some (.bool true)] (by kernel_rfl) (by simp [xr, go_sem, nk4]) ?_
              simp only [xw, p0, p1, p2, p3]
              go_upto_region 20 with (fail)
              refine wp_region_lit ?_
              refine xm [some (.pointer (some ⟨sb, 0, none⟩))] (by kernel_rfl) (by simp [xr, go_sem]) ?_
              simp only [xw, p0, p1, p2, p3]
              refine wpList_call rfl (by simp [go_sem]) ((clear_go hSt.out.so).mono ?_)
              rintro e y7 ⟨rfl, hM7, hB7⟩
              refine ⟨_, rfl, ?_⟩
              simp only [Act.put, List.setIfInBounds_toArray, List.set_cons_zero, List.set_cons_succ]
              have hS7 := hideit (hSt.out.first hM7 hB7)
              replace Hoz := hideit (Hoz.out.but hB7 hoz.out.1)
              clear hM7 hB7 hSt
              go_upto_region 21 with (fail)
              refine wp_region_lit ?_
              refine xm [some (.pointer (some ⟨xb, 0, none⟩)), some (.pointer (some ⟨xb, 0, none⟩)), some (.pointer (some ⟨xb, 0, none⟩))] (by kernel_rfl) (by simp [xr, go_sem]) ?_
              simp only [xw, p0, p1, p2, p3]
              obtain ⟨hD8, hB8⟩ := dc_nil hS7.out.dc.row
              have e1 := hS7.out.dc.row.1 0 (by decide)
              have e2 := hS7.out.dc.row.2.1 0 (by decide)
              refine xst rfl (y7.setCell ⟨xb, 0, none⟩ (.slice none 0 0)) (by simp [go_sem, e1, e2]) ?_
              simp only [Act.put]
              have hS8 := hideit (hS7.out.second hD8 hB8)
              replace Hoz := hideit (Hoz.out.but hB8 hoz.out.2)
              generalize y7.setCell ⟨xb, 0, none⟩ (.slice none 0 0) = y8 at hS8 Hoz ⊢
              clear hD8 hB8 hS7 e1 e2
              obtain ⟨L9, hL9⟩ : ∃ L9, L9 = ([] : List KV) := ⟨_, rfl⟩
              have hb9 : L9.length ≤ i + 1 := by rw [hL9]; simp
              rw [← hL9] at hS8
              clear hL9
              obtain ⟨ovx, cvx, hvx, _, _⟩ := hS8.out.dc.sl.form
              rw [hvx] at hS8
              clear hvx
              go_upto_region 22 with (fail)
              replace Hoz := hideit Hoz.out.drew
              replace hS8 := hideit (hS8.out.carry (Ext.draw (Ext.refl y8)))
              refine wp_region_lad (fun X => Ext y8.drew X) [(false, 0), (false, 1), (false, 2), (false, 3), (false, 5), (false, 6), (false, 7), (false, 8), (false, 9), (true, 4), (false, 10), (false, 11), (false, 12), (false, 13), (false, 14), (false, 15), (false, 16), (true, 17), (false, 18), (false, 19)] (by kernel_rfl) (by kernel_rfl) (by decide +kernel) (by decide +kernel) (by decide +kernel) (by decide +kernel) (Ext.refl _) ?_
              refine wpX_f _ (.bool true) rfl rfl (fun X _ => by simp [go_sem]) ?_
              simp only [List.getElem_toArray, List.getElem_cons_zero, Act.put, List.setIfInBounds_toArray, List.set_cons_zero, List.set_cons_succ]
              refine wpX_f _ (.bool false) rfl rfl (fun X _ => by simp [go_sem]) ?_
              simp only [List.getElem_toArray, List.getElem_cons_zero, List.getElem_cons_succ, Act.put, List.setIfInBounds_toArray, List.set_cons_zero, List.set_cons_succ]
              refine wpX_f _ (.bool false) rfl rfl (fun X _ => by simp [go_sem]) ?_
              simp only [List.getElem_toArray, List.getElem_cons_zero, List.getElem_cons_succ, Act.put, List.setIfInBounds_toArray, List.set_cons_zero, List.set_cons_succ]
              refine wpX_f _ (.pointer (some ⟨sb, 0, none⟩)) rfl rfl (fun X _ => by simp [go_sem]) ?_
              simp only [List.getElem_toArray, List.getElem_cons_zero, List.getElem_cons_succ, Act.put, List.setIfInBounds_toArray, List.set_cons_zero, List.set_cons_succ]
              refine wpX_f _ (.pointer (some ⟨xb, 0, none⟩)) rfl rfl (fun X _ => by simp [go_sem]) ?_
              simp only [List.getElem_toArray, List.getElem_cons_zero, List.getElem_cons_succ, Act.put, List.setIfInBounds_toArray, List.set_cons_zero, List.set_cons_succ]
              refine wpX_f _ (.pointer (some ⟨xb, 0, none⟩)) rfl rfl (fun X _ => by simp [go_sem]) ?_
              simp only [List.getElem_toArray, List.getElem_cons_zero, List.getElem_cons_succ, Act.put, List.setIfInBounds_toArray, List.set_cons_zero, List.set_cons_succ]
              refine wpX_f _ (.pointer (some ⟨xb, 0, none⟩)) rfl rfl (fun X _ => by simp [go_sem]) ?_
              simp only [List.getElem_toArray, List.getElem_cons_zero, List.getElem_cons_succ, Act.put, List.setIfInBounds_toArray, List.set_cons_zero, List.set_cons_succ]
              refine wpX_f _ (.slice ovx L9.length cvx) rfl rfl (fun X hX => by have mm : X.cell? ⟨xb, 0, none⟩ = some (.slice ovx L9.length cvx) := (hS8.out.carry hX).dc.row.1 0 (by decide); simp [go_sem, mm]) ?_
              simp only [List.getElem_toArray, List.getElem_cons_zero, List.getElem_cons_succ, Act.put, List.setIfInBounds_toArray, List.set_cons_zero, List.set_cons_succ]
              refine wpX_f _ (.int .i64 (L9.length : Int)) rfl rfl (fun X _ => by simp [go_sem]) ?_
              simp only [List.getElem_toArray, List.getElem_cons_zero, List.getElem_cons_succ, Act.put, List.setIfInBounds_toArray, List.set_cons_zero, List.set_cons_succ]
              refine wpX_call _ rfl rfl (by simp [go_sem]) ((len_go hS8.out.so).mono ?_)
              rintro e _ ⟨rfl, rfl⟩
              refine ⟨_, rfl, fun X => Ext y8.drew X, fun X hX => hX, Ext.refl _, ?_⟩
              simp only [List.getElem_toArray, List.getElem_cons_zero, List.getElem_cons_succ, Act.put, List.setIfInBounds_toArray, List.set_cons_zero, List.set_cons_succ]
              refine wpX_f _ (.bool false) rfl rfl (fun X _ => by simp [go_sem]) ?_
              simp only [List.getElem_toArray, List.getElem_cons_zero, List.getElem_cons_succ, Act.put, List.setIfInBounds_toArray, List.set_cons_zero, List.set_cons_succ]
              refine wpX_f _ (.bool false) rfl rfl (fun X _ => by simp [go_sem]) ?_
              simp only [List.getElem_toArray, List.getElem_cons_zero, List.getElem_cons_succ, Act.put, List.setIfInBounds_toArray, List.set_cons_zero, List.set_cons_succ]
              refine wpX_f _ (.bool false) rfl rfl (fun X _ => by simp [go_sem]) ?_
              simp only [List.getElem_toArray, List.getElem_cons_zero, List.getElem_cons_succ, Act.put, List.setIfInBounds_toArray, List.set_cons_zero, List.set_cons_succ]
              refine wpX_f _ (.pointer (some ⟨sb, 0, none⟩)) rfl rfl (fun X _ => by simp [go_sem]) ?_
              simp only [List.getElem_toArray, List.getElem_cons_zero, List.getElem_cons_succ, Act.put, List.setIfInBounds_toArray, List.set_cons_zero, List.set_cons_succ]
              refine wpX_f _ (.pointer (some ⟨xb, 0, none⟩)) rfl rfl (fun X _ => by simp [go_sem]) ?_
              simp only [List.getElem_toArray, List.getElem_cons_zero, List.getElem_cons_succ, Act.put, List.setIfInBounds_toArray, List.set_cons_zero, List.set_cons_succ]
              refine wpX_f _ (.pointer (some ⟨oz, 1, none⟩)) rfl rfl (fun X _ => by simp [go_sem]) ?_
              simp only [List.getElem_toArray, List.getElem_cons_zero, List.getElem_cons_succ, Act.put, List.setIfInBounds_toArray, List.set_cons_zero, List.set_cons_succ]
              refine wpX_f _ (.int .i64 (m)) rfl rfl (fun X hX => by have m3 : X.cell? ⟨oz, 1, none⟩ = some (.int .i64 (m)) := (Hoz.out.carry hX).1 1 (by decide); simp [go_sem, m3]) ?_
              simp only [List.getElem_toArray, List.getElem_cons_zero, List.getElem_cons_succ, Act.put, List.setIfInBounds_toArray, List.set_cons_zero, List.set_cons_succ]
              refine wpX_call _ rfl rfl (by simp [go_sem]) ((over_go hS8.out.so hS8.out.dc (by omega) m).mono ?_)
              rintro e y9 ⟨rfl, hX9⟩
              refine ⟨_, rfl, fun X => Ext y9 X, fun X hX => Ext.trans hX9 hX, Ext.refl _, ?_⟩
              simp only [List.getElem_toArray, List.getElem_cons_zero, List.getElem_cons_succ, Act.put, List.setIfInBounds_toArray, List.set_cons_zero, List.set_cons_succ]
              replace Hoz := hideit (Hoz.out.carry hX9)
              replace hS8 := hideit (hS8.out.carry hX9)
              clear hX9
              refine wpX_f _ (.bool false) rfl rfl (fun X _ => by simp [go_sem]) ?_
              simp only [List.getElem_toArray, List.getElem_cons_zero, List.getElem_cons_succ, Act.put, List.setIfInBounds_toArray, List.set_cons_zero, List.set_cons_succ]
              refine wpX_f _ (.bool false) rfl rfl (fun X _ => by simp [go_sem]) ?_
              simp only [List.getElem_toArray, List.getElem_cons_zero, List.getElem_cons_succ, Act.put, List.setIfInBounds_toArray, List.set_cons_zero, List.set_cons_succ]
              refine wpX_nil ?_
              go_wp2
              exact ⟨⟨i + 1, L9, _, by go_num, by omega, hb9, hS8.out⟩, by simp [intOf]; omega⟩
            · go_upto_region 10 with (fail)
              refine wp_region_lit ?_
              refine xm [some (.bool false), some (.bool false)] (by kernel_rfl) (by simp [xr, go_sem, nk1]) ?_
              simp only [xw, p0, p1, p2, p3]
              go_upto_region 13 with (fail)
              refine wp_region_lit ?_
              refine xm [some (.bool false), some (.bool false)] (by kernel_rfl) (by simp [xr, go_sem, nk2]) ?_
              simp only [xw, p0, p1, p2, p3]
              go_upto_region 17 with (fail)
              refine wp_region_lit ?_
              refine xm [some (.bool false), some (.bool false)] (by kernel_rfl) (by simp [xr, go_sem, nk3]) ?_
              simp only [xw, p0, p1, p2, p3]
              go_upto_region 19 with (fail)
              refine wp_region_lit ?_
              refine xm [some (.bool false), some (.bool false)] (by kernel_rfl) (by simp [xr, go_sem, nk4]) ?_
              simp only [xw, p0, p1, p2, p3]
              obtain ⟨L9, hL9⟩ : ∃ L9, L9 = L := ⟨_, rfl⟩
              have hb9 : L9.length ≤ i + 1 := by rw [hL9]; omega
              rw [← hL9] at hSt
              clear hL9
              obtain ⟨ovx, cvx, hvx, _, _⟩ := hSt.out.dc.sl.form
              rw [hvx] at hSt
              clear hvx
              go_upto_region 22 with (fail)
              replace Hoz := hideit Hoz.out.drew
              replace hSt := hideit (hSt.out.carry (Ext.draw (Ext.refl x1)))
              refine wp_region_lad (fun X => Ext x1.drew X) [(false, 0), (false, 1), (false, 2), (false, 3), (false, 5), (false, 6), (false, 7), (false, 8), (false, 9), (true, 4), (false, 10), (false, 11), (false, 12), (false, 13), (false, 14), (false, 15), (false, 16), (true, 17), (false, 18), (false, 19)] (by kernel_rfl) (by kernel_rfl) (by decide +kernel) (by decide +kernel) (by decide +kernel) (by decide +kernel) (Ext.refl _) ?_
              refine wpX_f _ (.bool true) rfl rfl (fun X _ => by simp [go_sem]) ?_
              simp only [List.getElem_toArray, List.getElem_cons_zero, Act.put, List.setIfInBounds_toArray, List.set_cons_zero, List.set_cons_succ]
              refine wpX_f _ (.bool false) rfl rfl (fun X _ => by simp [go_sem]) ?_
              simp only [List.getElem_toArray, List.getElem_cons_zero, List.getElem_cons_succ, Act.put, List.setIfInBounds_toArray, List.set_cons_zero, List.set_cons_succ]
              refine wpX_f _ (.bool false) rfl rfl (fun X _ => by simp [go_sem]) ?_
              simp only [List.getElem_toArray, List.getElem_cons_zero, List.getElem_cons_succ, Act.put, List.setIfInBounds_toArray, List.set_cons_zero, List.set_cons_succ]
              refine wpX_f _ (.pointer (some ⟨sb, 0, none⟩)) rfl rfl (fun X _ => by simp [go_sem]) ?_
              simp only [List.getElem_toArray, List.getElem_cons_zero, List.getElem_cons_succ, Act.put, List.setIfInBounds_toArray, List.set_cons_zero, List.set_cons_succ]
              refine wpX_f _ (.pointer (some ⟨xb, 0, none⟩)) rfl rfl (fun X _ => by simp [go_sem]) ?_
              simp only [List.getElem_toArray, List.getElem_cons_zero, List.getElem_cons_succ, Act.put, List.setIfInBounds_toArray, List.set_cons_zero, List.set_cons_succ]
              refine wpX_f _ (.pointer (some ⟨xb, 0, none⟩)) rfl rfl (fun X _ => by simp [go_sem]) ?_
              simp only [List.getElem_toArray, List.getElem_cons_zero, List.getElem_cons_succ, Act.put, List.setIfInBounds_toArray, List.set_cons_zero, List.set_cons_succ]
              refine wpX_f _ (.pointer (some ⟨xb, 0, none⟩)) rfl rfl (fun X _ => by simp [go_sem]) ?_
              simp only [List.getElem_toArray, List.getElem_cons_zero, List.getElem_cons_succ, Act.put, List.setIfInBounds_toArray, List.set_cons_zero, List.set_cons_succ]
              refine wpX_f _ (.slice ovx L9.length cvx) rfl rfl (fun X hX => by have mm : X.cell? ⟨xb, 0, none⟩ = some (.slice ovx L9.length cvx) := (hSt.out.carry hX).dc.row.1 0 (by decide); simp [go_sem, mm]) ?_
              simp only [List.getElem_toArray, List.getElem_cons_zero, List.getElem_cons_succ, Act.put, List.setIfInBounds_toArray, List.set_cons_zero, List.set_cons_succ]
              refine wpX_f _ (.int .i64 (L9.length : Int)) rfl rfl (fun X _ => by simp [go_sem]) ?_
              simp only [List.getElem_toArray, List.getElem_cons_zero, List.getElem_cons_succ, Act.put, List.setIfInBounds_toArray, List.set_cons_zero, List.set_cons_succ]
              refine wpX_call _ rfl rfl (by simp [go_sem]) ((len_go hSt.out.so).mono ?_)
              rintro e _ ⟨rfl, rfl⟩
              refine ⟨_, rfl, fun X => Ext x1.drew X, fun X hX => hX, Ext.refl _, ?_⟩
              simp only [List.getElem_toArray, List.getElem_cons_zero, List.getElem_cons_succ, Act.put, List.setIfInBounds_toArray, List.set_cons_zero, List.set_cons_succ]
              refine wpX_f _ (.bool false) rfl rfl (fun X _ => by simp [go_sem]) ?_
              simp only [List.getElem_toArray, List.getElem_cons_zero, List.getElem_cons_succ, Act.put, List.setIfInBounds_toArray, List.set_cons_zero, List.set_cons_succ]
              refine wpX_f _ (.bool false) rfl rfl (fun X _ => by simp [go_sem]) ?_
              simp only [List.getElem_toArray, List.getElem_cons_zero, List.getElem_cons_succ, Act.put, List.setIfInBounds_toArray, List.set_cons_zero, List.set_cons_succ]
              refine wpX_f _ (.bool false) rfl rfl (fun X _ => by simp [go_sem]) ?_
              simp only [List.getElem_toArray, List.getElem_cons_zero, List.getElem_cons_succ, Act.put, List.setIfInBounds_toArray, List.set_cons_zero, List.set_cons_succ]
              refine wpX_f _ (.pointer (some ⟨sb, 0, none⟩)) rfl rfl (fun X _ => by simp [go_sem]) ?_
              simp only [List.getElem_toArray, List.getElem_cons_zero, List.getElem_cons_succ, Act.put, List.setIfInBounds_toArray, List.set_cons_zero, List.set_cons_succ]
              refine wpX_f _ (.pointer (some ⟨xb, 0, none⟩)) rfl rfl (fun X _ => by simp [go_sem]) ?_
              simp only [List.getElem_toArray, List.getElem_cons_zero, List.getElem_cons_succ, Act.put, List.setIfInBounds_toArray, List.set_cons_zero, List.set_cons_succ]
              refine wpX_f _ (.pointer (some ⟨oz, 1, none⟩)) rfl rfl (fun X _ => by simp [go_sem]) ?_
              simp only [List.getElem_toArray, List.getElem_cons_zero, List.getElem_cons_succ, Act.put, List.setIfInBounds_toArray, List.set_cons_zero, List.set_cons_succ]
              refine wpX_f _ (.int .i64 (m)) rfl rfl (fun X hX => by have m3 : X.cell? ⟨oz, 1, none⟩ = some (.int .i64 (m)) := (Hoz.out.carry hX).1 1 (by decide); simp [go_sem, m3]) ?_
              simp only [List.getElem_toArray, List.getElem_cons_zero, List.getElem_cons_succ, Act.put, List.setIfInBounds_toArray, List.set_cons_zero, List.set_cons_succ]
              refine wpX_call _ rfl rfl (by simp [go_sem]) ((over_go hSt.out.so hSt.out.dc (by omega) m).mono ?_)
              rintro e y9 ⟨rfl, hX9⟩
              refine ⟨_, rfl, fun X => Ext y9 X, fun X hX => Ext.trans hX9 hX, Ext.refl _, ?_⟩
              simp only [List.getElem_toArray, List.getElem_cons_zero, List.getElem_cons_succ, Act.put, List.setIfInBounds_toArray, List.set_cons_zero, List.set_cons_succ]
              replace Hoz := hideit (Hoz.out.carry hX9)
              replace hSt := hideit (hSt.out.carry hX9)
              clear hX9
              refine wpX_f _ (.bool false) rfl rfl (fun X _ => by simp [go_sem]) ?_
              simp only [List.getElem_toArray, List.getElem_cons_zero, List.getElem_cons_succ, Act.put, List.setIfInBounds_toArray, List.set_cons_zero, List.set_cons_succ]
              refine wpX_f _ (.bool false) rfl rfl (fun X _ => by simp [go_sem]) ?_
              simp only [List.getElem_toArray, List.getElem_cons_zero, List.getElem_cons_succ, Act.put, List.setIfInBounds_toArray, List.set_cons_zero, List.set_cons_succ]
              refine wpX_nil ?_
              go_wp2
              exact ⟨⟨i + 1, L9, _, by go_num, by omega, hb9, hSt.out⟩, by simp [intOf]; omega⟩
    · have i1 : ¬ (i : Int) < (n : Int) := by omega
      go_upto_region 5 with (fail)
      refine wp_region_lit ?_
      refine xm [some (.int .i64 (i : Int)), some (.slice ov n cap), some (.int .i64 (n : Int)), some (.bool false)] (by kernel_rfl) (by simp [xr, go_sem, i1]) ?_
      simp only [xw, p0, p1, p2, p3]
      go_upto_region 24 with (fail)
      refine wp_region_lit ?_
      refine xm [some (.pointer (some ⟨sb, 0, none⟩)), some (.pointer (some ⟨xb, 0, none⟩))] (by kernel_rfl) (by simp [xr, go_sem]) ?_
      simp only [xw, p0, p1, p2, p3]
      refine wpList_call rfl (by simp [go_sem]) ((over_go hSt.out.so hSt.out.dc (by omega) 1).mono ?_)
      rintro e y9 ⟨rfl, hX9⟩
      refine ⟨_, rfl, ?_⟩
      simp only [Act.put, List.setIfInBounds_toArray, List.set_cons_zero, List.set_cons_succ]
      replace hSt := hideit (hSt.out.carry hX9)
      clear hX9
      refine xm [some (.bool true)] (by kernel_rfl) (by simp [xr, go_sem]) ?_
      simp only [xw, p0, p1, p2, p3]
      go_wp2
      go_ret
      exact ⟨rfl, St.ext hSt.out⟩

set_option maxRecDepth 100000 in
theorem lifted (os : Os) (started : os.Started) (H : Type) (enc : TypeId × Value → H) :
    ReturnsInHanded {} Try.checked os 8 .any (Rows.codecSortedSpec.pre6 enc Try.prog Try.f8 Rows.codecSortedRow.domain false) (Rows.codecSortedSpec.post enc Try.prog Try.f8 false true false false) := by
  refine returnsInHanded_of_change_sized (C := Try.checked) own started (by kernel_rfl) Try.func8
    (ChangeSpec.witness6 (enc := enc) (C := Try.checked) false ⟨#[], #[.slice none 0 0], []⟩ 8 (by kernel_rfl) (by kernel_rfl) (by kernel_rfl) (by kernel_rfl)) ?_
  intro W base args ds gs before hval0 hW hcnd hsz0 _
  have hsz := hsz0
  have hval : ∀ (j : Nat) t v, Try.f8.params[j]? = some t → args[j]? = some v → Value.okWide Try.prog W .any base t v := hval0
  have hW' := hW
  obtain ⟨p, q, hA0, hV, rfl, hfz, hnd⟩ := hW
  have hA : DataW.TrodAll enc Try.prog W 0 (fun _ => true) true Try.f8.params.toList args.toList ds p := hA0
  rw [Try.params8] at hA hval hsz
  obtain ⟨v0, vs0, d0, ds0, p0, q0, hargs, rfl, rfl, h0, r0⟩ := trodAll_cons hA
  obtain ⟨rfl, rfl, rfl⟩ := trodAll_nil r0
  obtain rfl : args = #[v0] := by cases args; simp_all
  obtain ⟨rfl, rfl⟩ := trodVars_none hV
  have k0 := h0
  have lt0 : ∀ x ∈ p0, x.block < W.heap.size := by obtain ⟨m, hm⟩ := k0; exact DataW.trod_lt m _ _ _ hm
  have B0 := aarg (hval 0 57 v0 rfl rfl) h0 hsz 0 rfl rfl
  clear hA0 hval0
  refine (walk v0 W  B0).mono fun e W' ⟨he, bel⟩ => ?_
  subst he
  exact ⟨_, rfl, _, _, _, [], _, [], hW', trodAll_mk1 (shut_bool Try.underlying4 _), (trodAll_cons_mk (Below.trod laidOut (by kernel_rfl) (of_decide_eq_true (by kernel_rfl)) k0 bel lt0) trodAll_mk0), rfl, bel.frame _, fun h => by cases h⟩

theorem over : Rows.codecSortedRow.holds Try.pinned (OpenSpec.ofChange Rows.codecSortedSpec) :=
  OpenClaim.holds_of_wide 8 Try.f8 rfl rfl rfl rfl rfl rfl rfl ⟨rfl, rfl, rfl, rfl, rfl⟩ rfl rfl rfl rfl rfl (by kernel_rfl) Try.func8 (by kernel_rfl)
    (of_decide_eq_true (by kernel_rfl)) (by unfold Func.isWrapper; first | (rw [if_pos (by decide +kernel)]; kernel_rfl) | (rw [if_neg (by decide +kernel)]; exact ⟨rfl, rfl⟩))
    (fun os started H enc _ => lifted os started H enc)
end Go.Proofs.Ytboncdlihgpepaa.codecSorted
namespace Go.Proofs.Ytboncdlihgpepaa
theorem codecSorted_holds : Rows.CodecSortedSaid := codecSorted.over
end Go.Proofs.Ytboncdlihgpepaa
