/-
  When two texts are the same; blocks of slots that are not taken; what is filled out of a Reader, what comes next in one.
-/
import Derived.Test.YtomalmnpojcloaaSl
namespace Go.Proofs.Ytomalmnpojcloaa
open Go.RowKit Go.BigFrame
theorem fold_list : ∀ (l : List Int) (r : ByteArray), (l.foldl (fun r n => r.push (UInt8.ofNat n.toNat)) r).data.toList = r.data.toList ++ l.map fun n => UInt8.ofNat n.toNat
  | [], r => by simp
  | x :: l, r => by
    rw [List.foldl_cons, fold_list l, List.map_cons]
    show (r.data.push _).toList ++ _ = _
    rw [Array.toList_push, List.append_assoc]
    rfl
def lst (n : Nat) (b : Nat → BitVec 8) : List UInt8 := (List.range n).map fun j => UInt8.ofNat (b j).toNat
theorem bstr_list (n : Nat) (b : Nat → BitVec 8) : (bstr n fun j => ((b j).toNat : Int)).toList = lst n b := by
  rw [ByteArray.toList_eq]
  unfold bstr lst
  rw [fold_list]
  simp
theorem u8_inj {x y : BitVec 8} (h : UInt8.ofNat x.toNat = UInt8.ofNat y.toNat) : x = y := by
  have h1 := congrArg UInt8.toNat h
  simp only [UInt8.toNat_ofNat'] at h1
  have hx := x.isLt
  have hy := y.isLt
  exact BitVec.eq_of_toNat_eq (by omega)
theorem lst_beq (n : Nat) (f g : Nat → BitVec 8) : (lst n f == lst n g) = eqN n f g := by
  rw [Bool.eq_iff_iff, beq_iff_eq, eqN_iff]
  unfold lst
  constructor
  · intro h j hj
    have := congrArg (·[j]?) h
    simp only [List.getElem?_map, List.getElem?_range hj, Option.map_some, Option.some.injEq] at this
    exact u8_inj this
  · intro h
    exact List.map_congr_left fun j hj => by rw [h j (by simpa using hj)]
theorem lst_ne {n m : Nat} (f g : Nat → BitVec 8) (h : n ≠ m) : (lst n f == lst m g) = false := by
  rw [Bool.eq_false_iff]
  intro hh
  have := congrArg List.length (eq_of_beq hh)
  simp only [lst, List.length_map, List.length_range] at this
  exact h this
/-- two texts, told by their bytes -/
theorem str_beq (n : Nat) (f g : Nat → BitVec 8) : ((bstr n fun j => ((f j).toNat : Int)).toList == (bstr n fun j => ((g j).toNat : Int)).toList) = eqN n f g := by
  rw [bstr_list, bstr_list, lst_beq]
theorem str_ne {n m : Nat} (f g : Nat → BitVec 8) (h : n ≠ m) : ((bstr n fun j => ((f j).toNat : Int)).toList == (bstr m fun j => ((g j).toNat : Int)).toList) = false := by
  rw [bstr_list, bstr_list, lst_ne f g h]
set_option maxRecDepth 20000 in
set_option maxHeartbeats 2000000 in
theorem enc_zero (f : Nat → BitVec 8) (hz : ∀ j, j < 80 → f j = 0#8) (w : World) :
    Calls Try.prog 8 #[.agg (row 81 (slv false f)).toArray] w fun e w' => ∃ g, e = .returned (.tuple #[.slice (some ⟨g, 0, none⟩) 512 512, .int .i64 0]) ∧ w.heap.size ≤ g ∧ RowAt g 512 (yv zF) w' ∧ Ext w w' := by
  have H0 : Hid (RowAt w.heap.size 81 (slv false f) (w.alloc (.cells (row 81 (slv false f)).toArray 25))) := RowAt.new w 81 _ 25
  have hE0 : Hid (Ext w (w.alloc (.cells (row 81 (slv false f)).toArray 25))) := (Below.refl _ _).alloc (Nat.le_refl _) _
  have hq : Hid (eqN 80 f zF = true) := hideit (eqN_iff.2 hz)
  clear hz
  go_enter Try.func8, Try.ntmps8
  go_upto_region 1 with (fail)
  obtain ⟨w1, hw1⟩ : ∃ w1, w1 = w.alloc (.cells (row 81 (slv false f)).toArray 25) := ⟨_, rfl⟩
  rw [← hw1] at H0 hE0 ⊢
  clear hw1
  obtain ⟨c, hc⟩ : ∃ c, c = w.heap.size := ⟨_, rfl⟩
  rw [← hc] at H0 ⊢
  replace hc := hideit hc
  have e0 : w1.cell? ⟨c, 0, none⟩ = some (.bool false) := H0.out.1 0 (by decide)
  have hn := neq25 false false f zF w1
  rw [hq.out, show (!((false == false) && true)) = false from rfl] at hn
  refine wp_region_lit ?_
  refine wpList_run rfl (.pointer (some ⟨c, 0, none⟩)) (by simp [go_sem]) ?_
  simp only [Act.put, List.setIfInBounds_toArray, List.set_cons_zero, List.set_cons_succ]
  refine wpList_run rfl (.bool false) (by simp [go_sem, e0]) ?_
  simp only [Act.put, List.setIfInBounds_toArray, List.set_cons_zero, List.set_cons_succ]
  refine wpList_run rfl (.bool true) (by simp [go_sem]) ?_
  simp only [Act.put, List.setIfInBounds_toArray, List.set_cons_zero, List.set_cons_succ]
  refine wpList_run rfl (.bool true) (by simp [go_sem]) ?_
  simp only [Act.put, List.setIfInBounds_toArray, List.set_cons_zero, List.set_cons_succ]
  refine wpList_ungrd rfl ?_
  refine wpList_load_mid rfl 25 (.tmp 1) rfl c 0 rfl (row 81 (slv false f)) _ H0.out.range Try.underlying25 rfl (by rw [row_length]; exact info25) ?_
  simp only [Act.put, List.setIfInBounds_toArray, List.set_cons_zero, List.set_cons_succ]
  refine wpList_buildW rfl 25 [] rfl (.agg (row 81 (slv false zF)).toArray) (build25 _) ?_
  simp only [Act.put, List.setIfInBounds_toArray, List.set_cons_zero, List.set_cons_succ]
  refine wpList_cmp rfl .neq 25 25 (.tmp 9) (.tmp 10) rfl _ _ rfl rfl (by kernel_rfl) false hn ?_
  simp only [Act.put, List.setIfInBounds_toArray, List.set_cons_zero, List.set_cons_succ]
  refine wpList_run rfl (.bool false) (by simp [go_sem]) ?_
  simp only [Act.put, List.setIfInBounds_toArray, List.set_cons_zero, List.set_cons_succ]
  clear hn
  obtain ⟨d, hd⟩ : ∃ d, d = w1.heap.size := ⟨_, rfl⟩
  go_upto_region 4 with (go_at_call 20; refine (neww_any 512 (fun _ => 0#8) _ (by omega)).mono ?_; rintro e w2 ⟨rfl, hW2, hE2⟩; replace hW2 := hideit hW2; replace hE2 := hideit hE2)
  rw [← hd] at hW2 ⊢
  have e2 : w2.cell? ⟨c, 0, none⟩ = some (.bool false) := (H0.out.carry hE2.out).1 0 (by decide)
  have hE02 := hideit (Ext.trans hE0.out hE2.out)
  clear e0 H0 hE0 hd hE2
  go_wp2_with (go_at_call 22; refine (wdone_ok d 512 0 (fun _ => 0#8) _ hW2.out (by decide) (by decide)).mono ?_; rintro e w8 ⟨g, rfl, hg8, hR8, hE8⟩; replace hR8 := hideit hR8; replace hE8 := hideit hE8)
  go_ret2
  exact ⟨g, rfl, Nat.le_trans (Below.size hE02.out) hg8, hR8.out.congr fun j hj => (by simp only [yv]; unfold padF zF; rw [if_neg (by omega)]), Ext.trans hE02.out hE8.out⟩
set_option maxRecDepth 20000 in
set_option maxHeartbeats 2000000 in
theorem enc_bad (f : Nat → BitVec 8) (hz : ¬ ∀ j, j < 80 → f j = 0#8) (w : World) :
    Calls Try.prog 8 #[.agg (row 81 (slv false f)).toArray] w fun e w' => e = .returned (.tuple #[.slice none 0 0, .int .i64 1]) ∧ Ext w w' := by
  have H0 : Hid (RowAt w.heap.size 81 (slv false f) (w.alloc (.cells (row 81 (slv false f)).toArray 25))) := RowAt.new w 81 _ 25
  have hE0 : Hid (Ext w (w.alloc (.cells (row 81 (slv false f)).toArray 25))) := (Below.refl _ _).alloc (Nat.le_refl _) _
  have hq : Hid (eqN 80 f zF = false) := hideit (by rw [Bool.eq_false_iff]; exact fun hh => hz (eqN_iff.1 hh))
  clear hz
  go_enter Try.func8, Try.ntmps8
  go_upto_region 1 with (fail)
  obtain ⟨w1, hw1⟩ : ∃ w1, w1 = w.alloc (.cells (row 81 (slv false f)).toArray 25) := ⟨_, rfl⟩
  rw [← hw1] at H0 hE0 ⊢
  clear hw1
  obtain ⟨c, hc⟩ : ∃ c, c = w.heap.size := ⟨_, rfl⟩
  rw [← hc] at H0 ⊢
  replace hc := hideit hc
  have e0 : w1.cell? ⟨c, 0, none⟩ = some (.bool false) := H0.out.1 0 (by decide)
  have hn := neq25 false false f zF w1
  rw [hq.out, show (!((false == false) && false)) = true from rfl] at hn
  refine wp_region_lit ?_
  refine wpList_run rfl (.pointer (some ⟨c, 0, none⟩)) (by simp [go_sem]) ?_
  simp only [Act.put, List.setIfInBounds_toArray, List.set_cons_zero, List.set_cons_succ]
  refine wpList_run rfl (.bool false) (by simp [go_sem, e0]) ?_
  simp only [Act.put, List.setIfInBounds_toArray, List.set_cons_zero, List.set_cons_succ]
  refine wpList_run rfl (.bool true) (by simp [go_sem]) ?_
  simp only [Act.put, List.setIfInBounds_toArray, List.set_cons_zero, List.set_cons_succ]
  refine wpList_run rfl (.bool true) (by simp [go_sem]) ?_
  simp only [Act.put, List.setIfInBounds_toArray, List.set_cons_zero, List.set_cons_succ]
  refine wpList_ungrd rfl ?_
  refine wpList_load_mid rfl 25 (.tmp 1) rfl c 0 rfl (row 81 (slv false f)) _ H0.out.range Try.underlying25 rfl (by rw [row_length]; exact info25) ?_
  simp only [Act.put, List.setIfInBounds_toArray, List.set_cons_zero, List.set_cons_succ]
  refine wpList_buildW rfl 25 [] rfl (.agg (row 81 (slv false zF)).toArray) (build25 _) ?_
  simp only [Act.put, List.setIfInBounds_toArray, List.set_cons_zero, List.set_cons_succ]
  refine wpList_cmp rfl .neq 25 25 (.tmp 9) (.tmp 10) rfl _ _ rfl rfl (by kernel_rfl) true hn ?_
  simp only [Act.put, List.setIfInBounds_toArray, List.set_cons_zero, List.set_cons_succ]
  refine wpList_run rfl (.bool true) (by simp [go_sem]) ?_
  simp only [Act.put, List.setIfInBounds_toArray, List.set_cons_zero, List.set_cons_succ]
  clear hn
  go_wp2
  go_ret2
  exact ⟨rfl, hE0.out⟩
set_option maxRecDepth 20000 in
set_option maxHeartbeats 2000000 in
theorem fill_ok (lo r l c n o m : Nat) (f : Nat → BitVec 8) (g : Nat → Value) (w : World) (h : Rd lo r l f false w) (hm : m ≤ l) (hl : l ≤ 140737488355328) (hR : RowAt c n g w) (hcr : c ≠ r) (hf : o + m ≤ n) (h0 : 0 < m) :
    Calls Try.prog 28 #[.pointer (some ⟨r, 0, none⟩), .slice (some ⟨c, o, none⟩) m m] w fun e w' => e = .returned (.tuple #[]) ∧ ∃ X, But r w X ∧ w' = X.setCells c o (row m (yv f)) ∧ Rd lo r (l - m) (shF f m) false X := by
  replace h := hideit h
  replace hR := hideit hR
  go_enter Try.func28, Try.ntmps28
  refine wp_region_lit ?_
  refine wpList_run rfl (.slice (some ⟨c, o, none⟩) m m) (by simp [go_sem]) ?_
  simp only [Act.put, List.setIfInBounds_toArray, List.set_cons_zero, List.set_cons_succ]
  refine wpList_run rfl (.pointer (some ⟨r, 0, none⟩)) (by simp [go_sem]) ?_
  simp only [Act.put, List.setIfInBounds_toArray, List.set_cons_zero, List.set_cons_succ]
  refine wpList_run rfl (.slice (some ⟨c, o, none⟩) m m) (by simp [go_sem]) ?_
  simp only [Act.put, List.setIfInBounds_toArray, List.set_cons_zero, List.set_cons_succ]
  refine wpList_run rfl (.int .i64 (m : Int)) (by simp [go_sem]) ?_
  simp only [Act.put, List.setIfInBounds_toArray, List.set_cons_zero, List.set_cons_succ]
  refine wpList_call rfl (by simp [go_sem]; exact ⟨rfl, rfl⟩) ?_
  refine (rbytes_ok lo r l m f _ h.out hm hl).mono ?_
  rintro e w1 ⟨v1, rfl, hO1, hF1, hr1, hb1⟩
  refine ⟨_, rfl, ?_⟩
  simp only [Act.put, List.setIfInBounds_toArray, List.set_cons_zero, List.set_cons_succ]
  obtain ⟨b1, cp1, rfl, _, hcp, _, hR1⟩ := hO1.lies h0
  refine wpList_copy_row rfl (.tmp 4) (.tmp 8) 26 26 rfl 5 Try.underlying26 (by kernel_rfl) c n g (hR.out.but hb1 hcr) o m m ⟨b1, 0, none⟩ m cp1 rfl rfl m (yv f) (by show m = min m m; omega) (fun j hj => by rw [add_none, Nat.zero_add]; exact hR1.1 j hj) hf (fun _ _ => rfl) ?_
  simp only [Act.put, List.setIfInBounds_toArray, List.set_cons_zero, List.set_cons_succ]
  have hr9 := hideit hr1
  have hb9 := hideit hb1
  clear hr1 hb1 hR1 hO1 hF1 h hR
  exact bodyPost_end (v := .tuple #[]) (by simp [results, Try.results28]) rfl ⟨rfl, w1, hb9.out, rfl, hr9.out⟩
set_option maxRecDepth 20000 in
set_option maxHeartbeats 2000000 in
theorem fill_not (lo r l m : Nat) (f : Nat → BitVec 8) (bad : Bool) (oa : Option Addr) (w : World) (h : Rd lo r l f bad w) (hn : (!bad && okN m l) = false) :
    Calls Try.prog 28 #[.pointer (some ⟨r, 0, none⟩), .slice oa m m] w fun e w' => e = .returned (.tuple #[]) ∧ But r w w' ∧ Rd lo r l f true w' := by
  replace h := hideit h
  go_enter Try.func28, Try.ntmps28
  refine wp_region_lit ?_
  refine wpList_run rfl (.slice oa m m) (by simp [go_sem]) ?_
  simp only [Act.put, List.setIfInBounds_toArray, List.set_cons_zero, List.set_cons_succ]
  refine wpList_run rfl (.pointer (some ⟨r, 0, none⟩)) (by simp [go_sem]) ?_
  simp only [Act.put, List.setIfInBounds_toArray, List.set_cons_zero, List.set_cons_succ]
  refine wpList_run rfl (.slice oa m m) (by simp [go_sem]) ?_
  simp only [Act.put, List.setIfInBounds_toArray, List.set_cons_zero, List.set_cons_succ]
  refine wpList_run rfl (.int .i64 (m : Int)) (by simp [go_sem]) ?_
  simp only [Act.put, List.setIfInBounds_toArray, List.set_cons_zero, List.set_cons_succ]
  refine wpList_call rfl (by simp [go_sem]; exact ⟨rfl, rfl⟩) ?_
  refine (rbytes_not lo r l m f bad _ h.out hn).mono ?_
  rintro e w1 ⟨rfl, hr1, hb1⟩
  refine ⟨_, rfl, ?_⟩
  simp only [Act.put, List.setIfInBounds_toArray, List.set_cons_zero, List.set_cons_succ]
  have hcp := run_copy_none (P := Try.prog) w1 26 26 3 5 oa none m m 0 0 Try.underlying26 (by kernel_rfl) (Nat.zero_min _)
  refine wpList_run rfl (.int .i64 0) (by simp [go_sem, hcp]) ?_
  simp only [Act.put, List.setIfInBounds_toArray, List.set_cons_zero, List.set_cons_succ]
  have hr9 := hideit hr1
  have hb9 := hideit hb1
  clear hr1 hb1 h hcp
  exact bodyPost_end (v := .tuple #[]) (by simp [results, Try.results28]) rfl ⟨rfl, hb9.out, hr9.out⟩
set_option maxRecDepth 20000 in
set_option maxHeartbeats 2000000 in
theorem next_ok (lo r l : Nat) (f : Nat → BitVec 8) (M : ByteArray) (L : List Nat) (w : World) (h : Rd lo r l f false w) (hM : M.toList = lst 4 (bT L)) (hs : M.size = 4) (hl4 : 4 ≤ l) (hl : l ≤ 140737488355328) :
    Calls Try.prog 27 #[.pointer (some ⟨r, 0, none⟩), .string M] w fun e w' => e = .returned (.bool (eqN 4 f (bT L))) ∧ Rd lo r (l - 4) (shF f 4) false w' ∧ But r w w' := by
  obtain ⟨B, hB⟩ : ∃ B, B = eqN 4 f (bT L) := ⟨_, rfl⟩
  rw [← hB]
  replace hB := hideit hB
  replace h := hideit h
  replace hM := hideit hM
  replace hs := hideit hs
  go_enter Try.func27, Try.ntmps27
  go_upto_region 1 with (fail)
  refine wp_region_lit ?_
  refine wpList_run rfl (.pointer (some ⟨r, 0, none⟩)) (by simp [go_sem]) ?_
  simp only [Act.put, List.setIfInBounds_toArray, List.set_cons_zero, List.set_cons_succ]
  refine wpList_run rfl (.string M) (by simp [go_sem]) ?_
  simp only [Act.put, List.setIfInBounds_toArray, List.set_cons_zero, List.set_cons_succ]
  refine wpList_run rfl (.int .i64 4) (by simp [go_sem, hs.out]) ?_
  simp only [Act.put, List.setIfInBounds_toArray, List.set_cons_zero, List.set_cons_succ]
  refine wpList_call rfl (by simp [go_sem]; exact ⟨rfl, rfl⟩) ?_
  refine (rbytes_ok lo r l 4 f _ h.out hl4 hl).mono ?_
  rintro e w1 ⟨v1, rfl, hO1, hF1, hr1, hb1⟩
  refine ⟨_, rfl, ?_⟩
  simp only [Act.put, List.setIfInBounds_toArray, List.set_cons_zero, List.set_cons_succ]
  have hcv := convV v1 4 f w1 hO1.bv
  have hq : Hid (((bstr 4 fun j => ((f j).toNat : Int)).toList == M.toList) = B) := by
    show _ = B
    rw [bstr_list, hM.out, lst_beq, hB.out]
  obtain ⟨str, hstr⟩ : ∃ str, str = bstr 4 (fun j => ((f j).toNat : Int)) := ⟨_, rfl⟩
  rw [← hstr] at hcv hq
  have hr9 := hideit hr1
  have hb9 := hideit hb1
  clear hr1 hb1 hO1 hF1 h hM hs hstr
  refine wpList_run rfl (.string str) (by simp [go_sem, hcv]) ?_
  simp only [Act.put, List.setIfInBounds_toArray, List.set_cons_zero, List.set_cons_succ]
  refine wpList_run rfl (.string M) (by simp [go_sem]) ?_
  simp only [Act.put, List.setIfInBounds_toArray, List.set_cons_zero, List.set_cons_succ]
  refine wpList_run rfl (.bool B) (by simp only [← hq.out]; simp [go_sem]) ?_
  simp only [Act.put, List.setIfInBounds_toArray, List.set_cons_zero, List.set_cons_succ]
  clear hcv hq
  go_wp2
  go_ret
  exact ⟨rfl, hr9.out, hb9.out⟩
end Go.Proofs.Ytomalmnpojcloaa
