/-
  The document's change of a block at a place. A region that draws its order: pure operations taken first, then quiet ones, late ones behind: one walk serves every order.
-/
import Derived.Test.YtkoodgfadedeoaaQ32
import Derived.Test.YtkoodgfadedeoaaQ29
namespace Go.Proofs.Ytkoodgfadedeoaa
open Go.RowKit Go.BigFrame
set_option maxRecDepth 20000 in
set_option maxHeartbeats 4000000 in
theorem ratE_any (base0 q r : Nat) (S1 S2 : Nat → BitVec 8) (hr : 1 ≤ r) (hr2 : r ≤ 14) (a : Addr) (cap : Nat) (b t : Nat → BitVec 8) (w : World) (hP : RPairAt base0 q r S1 S2 w) (hB : LieAt a 16 (yv b) w) :
    Calls Try.prog 60 #[.pointer (some ⟨q, 0, none⟩), .slice (some a) 16 cap, .agg (row 16 (yv t)).toArray, .bool false] w fun e w' => ∃ v, e = .returned v ∧ OwnB w.heap.size 5 v 16 (yv (addF ((encF S1 bxT twT r) (addF b t)) t)) w' ∧ Below w.heap.size w w' := by
  have hz := store_Y16
  obtain ⟨c, hc⟩ : ∃ c, c = w.heap.size := ⟨_, rfl⟩
  obtain ⟨W2, hW2⟩ : ∃ W2, W2 = (w.alloc (.cells (row 16 (yv t)).toArray 23)).alloc (.cells (row 16 (yv fun _ => 0#8)).toArray 23) := ⟨_, rfl⟩
  have HE2 : Ext w W2 := by rw [hW2]; exact ((Below.refl _ _).alloc (Nat.le_refl _) _).alloc (by simp) _
  have HT2 : RowAt c 16 (yv t) W2 := by rw [hW2, hc]; exact (RowAt.new w 16 (yv t) 23).alloc _
  have HZ2 : RowAt (c + 1) 16 (yv fun _ => 0#8) W2 := by
    have h := RowAt.new (w.alloc (.cells (row 16 (yv t)).toArray 23)) 16 (yv fun _ => 0#8) 23
    rw [hW2, hc]; simpa using h
  replace HE2 := hideit HE2
  replace HT2 := hideit HT2
  replace HZ2 := hideit HZ2
  replace hW2 := hideit hW2
  replace hP := hideit hP
  replace hB := hideit hB
  go_enter Try.func60, Try.ntmps60
  go_upto_region 3 with (fail)
  rw [← hW2.out, ← hc]
  have hcw : w.heap.size ≤ c := by omega
  clear hc hW2 hz
  go_loopw [10] (fun i wr => ∃ m : Nat, m ≤ 16 ∧ i = .int .i64 (m : Int) ∧ RowAt c 16 (yv t) wr ∧ RowAt (c + 1) 16 (yv fun j => if j < m then addF b t j else 0#8) wr ∧ Ext w wr) (fun i _ => 16 - (intOf i).toNat)
  case atStart => exact ⟨0, by omega, rfl, HT2.out, HZ2.out.congr fun j _ => by simp only [yv]; rw [if_neg (by omega)], HE2.out⟩
  case round =>
    clear HT2 HZ2 HE2
    obtain ⟨m, hm, rfl, hT, hR, hE⟩ := hrel
    have HT := hideit hT
    have HR := hideit hR
    have HE := hideit hE
    by_cases hlt : m < 16
    · have m0 : (0 : Int) ≤ (m : Int) := by omega
      have m1 : (m : Int) < 16 := by omega
      have e1 := hR.1 m (by omega)
      have g1 := hR.2.1 m (by omega)
      have e2 : wr.cell? ⟨c, m, none⟩ = some (.int .u8 ((t m).toNat : Int)) := hT.1 m hlt
      have e3 : wr.cell? (a.add m) = some (.int .u8 ((b m).toNat : Int)) := (hB.out.carry hE).1 m hlt
      have o3 : bits .xor .u8 ((b m).toNat : Int) ((t m).toNat : Int) = ((addF b t m).toNat : Int) := xB_fact _ _
      clear hT hR hE
      go_upto_region 5 with (fail)
      go_region
      have HS := hideit (RowAt.set HR.out m (.int .u8 ((addF b t m).toNat : Int))).drew
      have HBu : But (c + 1) wr (wr.setCell ⟨c + 1, m, none⟩ (.int .u8 ((addF b t m).toNat : Int))).drew := (but_setCell _ _ _ _).drew
      have HE' : Hid (Ext w _) := hideit (Ext.but HE.out HBu (by omega))
      have HT' := hideit (RowAt.but HT.out HBu (by omega))
      clear HR HE HT HBu e1 g1 e2 e3
      generalize (wr.setCell ⟨c + 1, m, none⟩ (.int .u8 ((addF b t m).toNat : Int))).drew = Y at *
      go_wp2
      go_roundw
      case rel =>
        have h1 : RowAt (c + 1) 16 (yv fun j => if j < m + 1 then addF b t j else 0#8) Y := HS.out.congr fun j _ => by
          simp only [yv]
          by_cases e : j = m
          · subst e; rw [if_pos rfl, if_pos (by omega)]
          · rw [if_neg e]
            by_cases h : j < m
            · rw [if_pos h, if_pos (by omega)]
            · rw [if_neg h, if_neg (by omega)]
        first | exact ⟨(m + 1 : Nat), by omega, by go_num, HT'.out, h1, HE'.out⟩ | ((repeat apply Exists.intro); exact ⟨⟨m + 1, by omega, by go_num, HT'.out, h1, HE'.out⟩, rfl⟩)
      case measure => simp [intOf]; omega
    · obtain rfl : m = 16 := by omega
      clear hT hR hE
      obtain ⟨f, hf⟩ : ∃ f, f = addF b t := ⟨_, rfl⟩
      have HF : Hid (RowAt (c + 1) 16 (yv f) wr) := hideit (HR.out.congr fun j hj => by simp only [yv]; rw [if_pos hj, hf])
      clear HR
      obtain ⟨E, hEE⟩ : ∃ E, E = (encF S1 bxT twT r) f := ⟨_, rfl⟩
      obtain ⟨x1, kb1, cp1, x2, kb2, cp2, p1, p2, p3, p4, p5, _⟩ := hP.out.ext (Ext.trans HE.out (Ext.draw (Ext.refl wr)))
      have e1 : ∀ k : Kept (Ext wr.drew), k.w.cell? ⟨q, 0, none⟩ = some (.pointer (some ⟨x1, 0, none⟩)) := fun k => (Below.cell k.ok (p := ⟨q, 0, none⟩) p5).trans p1
      replace p3 := hideit p3
      have hrn : Hid (∀ X, Ext wr.drew X → Calls Try.prog 13 #[.pointer (some ⟨x1, 0, none⟩), .agg (row 16 (yv f)).toArray] X fun e w' => e = .returned (.agg (row 16 (yv E)).toArray) ∧ Below X.heap.size X w') := fun X hX => by rw [hEE]; exact renc_as x1 kb1 cp1 r S1 f hr hr2 X (p3.out.carry hX)
      replace hEE := hideit hEE
      replace hf := hideit hf
      clear p1 p2 p3 p4
      have hne := kept_ne wr.drew
      go_upto_region 8 with (fail)
      refine wp_region_late 6 (by kernel_rfl) (by kernel_rfl) (by decide) ?_
      simp only [List.take_succ_cons, List.take_zero, List.drop_succ_cons, List.drop_zero]
      refine wpStrong_run 5 rfl ?_
      simp only [List.take_succ_cons, List.take_zero, List.drop_succ_cons, List.drop_zero]
      go_big_quiet_step (fail)
      go_big_quiet_step (fail)
      go_big_quiet_step (fail)
      go_big_quiet_step (fail)
      go_big_quiet_want
      refine loadQ 23 (.tmp 9) (c + 1) 0 16 (yv f) rfl rfl (fun w' hw' => (RowAt.carry (RowAt.drew HF.out) hw').range) Try.underlying23 rfl info32 ?_
      simp only [Act.put, List.setIfInBounds_toArray, List.set_cons_zero, List.set_cons_succ]
      go_big_quiet_on
      refine wpQuiet_nil ?_
      refine wpStrong_call rfl (fun X => by simp [go_sem]) (fun X hX => hrn.out X hX) ?_
      simp only [Act.put, List.setIfInBounds_toArray, List.set_cons_zero, List.set_cons_succ]
      refine wpStrong_nil ?_
      intro X hX
      have hX' : Ext wr X := Ext.trans ((Below.refl _ _).drew) hX
      have HFX := hideit (HF.out.carry hX')
      have HTX := hideit (HT.out.carry hX')
      have HEX : Hid (Ext w X) := hideit (Ext.trans HE.out hX')
      clear hne e1 hX hX' hrn HF HT HE p5
      refine wpList_store_mid rfl 23 (.tmp 9) (.tmp 39) rfl _ 0 (row 16 (yv E)).toArray rfl rfl (by rw [row_size]; exact HFX.out.there) (by rw [row_size]; exact info32) (row_one fun _ _ => rfl) ?_
      have HBu : But (c + 1) X (X.setCells (c + 1) 0 (row 16 (yv E))) := But.sets _ 0 _ (But.refl _ _)
      have HE3 := hideit (HFX.out.cells (g' := yv E))
      have HT3 := hideit (RowAt.but HTX.out HBu (by omega))
      have HX3 : Hid (Ext w _) := hideit (Ext.but HEX.out HBu (by omega))
      clear HFX HTX HEX HBu
      generalize X.setCells (c + 1) 0 (row 16 (yv E)) = Y at *
      simp only [Act.put]
      go_upto_region 11 with (fail)
      go_loopw [11, 12] (fun v i wr => ∃ m : Nat, m ≤ 16 ∧ i = .int .i64 (m : Int) ∧ RowAt c 16 (yv t) wr ∧ RowAt (c + 1) 16 (yv E) wr ∧ OwnB (c + 1 + 1) 5 v m (yv (addF E t)) wr ∧ Ext w wr) (fun _ i _ => 16 - (intOf i).toNat)
      case atStart => exact ⟨0, by omega, rfl, HT3.out, HE3.out, own_nil _ _ _ _, HX3.out⟩
      case round =>
        clear HT3 HE3 HX3
        obtain ⟨m, hm, rfl, hT, hR, hO, hE⟩ := hrel
        have HT := hideit hT
        have HR := hideit hR
        have HO := hideit hO
        have HE := hideit hE
        clear hT hR hO hE
        by_cases hlt : m < 16
        · have m0 : (0 : Int) ≤ (m : Int) := by omega
          have m1 : (m : Int) < 16 := by omega
          have e1 : ∀ k : Kept (Ext wr.drew), k.w.cell? ⟨c + 1, m, none⟩ = some (.int .u8 ((E m).toNat : Int)) := fun k => (HR.out.drew.carry k.ok).1 m hlt
          have e2 : ∀ k : Kept (Ext wr.drew), k.w.cell? ⟨c, m, none⟩ = some (.int .u8 ((t m).toNat : Int)) := fun k => (HT.out.drew.carry k.ok).1 m hlt
          have o3 : bits .xor .u8 ((E m).toNat : Int) ((t m).toNat : Int) = ((addF E t m).toNat : Int) := xB_fact _ _
          have hne := kept_ne wr.drew
          go_upto_region 13 with (fail)
          refine wp_region_mixn 8 2 _ _ rfl rfl (by kernel_rfl) (by kernel_rfl) (by decide +kernel) (by decide +kernel) (by decide +kernel) (by decide +kernel) ?_
          simp only [List.take_succ_cons, List.take_zero]
          refine wpStrong_run 8 rfl ?_
          simp only [List.take_succ_cons, List.take_zero, List.drop_succ_cons, List.drop_zero]
          repeat (go_big_quiet_step (fail))
          refine wpQuiet_nil ?_
          refine wpStrong_nil ?_
          clear e1 e2 hne
          refine ⟨1, fun _ => .int .u8 ((addF E t m).toNat : Int), fun b => .slice (some ⟨b, 0, none⟩) 1 1, ⟨rfl, fun X hX => ⟨#[.int .u8 ((addF E t m).toNat : Int)], 5, ?_, fun j hj => ?_⟩⟩, fun d X hd hX hR1 => ?_⟩
          · simp [go_sem]
          · obtain rfl : j = 0 := by omega
            rfl
          have hX' : Ext wr X := Ext.trans ((Below.refl _ _).drew) hX
          have HOX := HO.out.ext hX'
          simp only [Act.put, List.setIfInBounds_toArray, List.set_cons_zero, List.set_cons_succ]
          refine wpList_grow elem22 rfl (.tmp 44) (.tmp 52) rfl rfl HOX ⟨d, 0, none⟩ 1 1 (fun _ => .int .u8 ((addF E t m).toNat : Int)) (yv (addF E t)) rfl (lie_of_row hR1) (fun _ _ => rfl) (fun _ _ => rfl) (fun j hj => by cases (show j = 0 by omega); rfl) (by omega) (by have := HR.out.2.2; have := Below.size hX'; omega) ?_
          intro v3 w3 ho hg
          have hlt3 := HOX.lt
          have H1 := hideit (RowAt.grown (HT.out.carry hX') hg (fun h => by have := (hlt3 c h.symm).1; omega))
          have H2 := hideit (RowAt.grown (HR.out.carry hX') hg (fun h => by have := (hlt3 (c + 1) h.symm).1; omega))
          have H3 : Hid (Ext w w3) := hideit (gr_ext (Ext.trans HE.out hX') hg (fun k h => by have := (hlt3 k h).1; omega))
          replace ho := hideit ho
          clear hg hlt3 HOX hR1 hX hX' hd HT HR HO HE
          simp only [Act.put, List.setIfInBounds_toArray, List.set_cons_zero, List.set_cons_succ]
          go_wp2
          go_roundw
          case rel =>
            first | exact ⟨(m + 1 : Nat), by omega, by go_num, H1.out, H2.out, ho.out, H3.out⟩ | ((repeat apply Exists.intro); exact ⟨⟨m + 1, by omega, by go_num, H1.out, H2.out, ho.out, H3.out⟩, rfl⟩)
          case measure => simp [intOf]; omega
        · obtain rfl : m = 16 := by omega
          have HOF : OwnB w.heap.size 5 u11 16 (yv (addF ((encF S1 bxT twT r) (addF b t)) t)) wr := by
            rw [← hf.out, ← hEE.out]
            exact ⟨HO.out.1, HO.out.2.imp id fun ⟨g, cp, cur, k1, k2, k3⟩ => ⟨g, cp, cur, k1, by omega, k3⟩⟩
          replace HOF := hideit HOF
          go_wp2
          go_ret
          exact ⟨u11, rfl, HOF.out, HE.out⟩
set_option maxRecDepth 20000 in
set_option maxHeartbeats 4000000 in
theorem ratD_any (base0 q r : Nat) (S1 S2 : Nat → BitVec 8) (hr : 1 ≤ r) (hr2 : r ≤ 14) (a : Addr) (cap : Nat) (b t : Nat → BitVec 8) (w : World) (hP : RPairAt base0 q r S1 S2 w) (hB : LieAt a 16 (yv b) w) :
    Calls Try.prog 60 #[.pointer (some ⟨q, 0, none⟩), .slice (some a) 16 cap, .agg (row 16 (yv t)).toArray, .bool true] w fun e w' => ∃ v, e = .returned v ∧ OwnB w.heap.size 5 v 16 (yv (addF ((decF S1 ubT twT r) (addF b t)) t)) w' ∧ Below w.heap.size w w' := by
  have hz := store_Y16
  obtain ⟨c, hc⟩ : ∃ c, c = w.heap.size := ⟨_, rfl⟩
  obtain ⟨W2, hW2⟩ : ∃ W2, W2 = (w.alloc (.cells (row 16 (yv t)).toArray 23)).alloc (.cells (row 16 (yv fun _ => 0#8)).toArray 23) := ⟨_, rfl⟩
  have HE2 : Ext w W2 := by rw [hW2]; exact ((Below.refl _ _).alloc (Nat.le_refl _) _).alloc (by simp) _
  have HT2 : RowAt c 16 (yv t) W2 := by rw [hW2, hc]; exact (RowAt.new w 16 (yv t) 23).alloc _
  have HZ2 : RowAt (c + 1) 16 (yv fun _ => 0#8) W2 := by
    have h := RowAt.new (w.alloc (.cells (row 16 (yv t)).toArray 23)) 16 (yv fun _ => 0#8) 23
    rw [hW2, hc]; simpa using h
  replace HE2 := hideit HE2
  replace HT2 := hideit HT2
  replace HZ2 := hideit HZ2
  replace hW2 := hideit hW2
  replace hP := hideit hP
  replace hB := hideit hB
  go_enter Try.func60, Try.ntmps60
  go_upto_region 3 with (fail)
  rw [← hW2.out, ← hc]
  have hcw : w.heap.size ≤ c := by omega
  clear hc hW2 hz
  go_loopw [10] (fun i wr => ∃ m : Nat, m ≤ 16 ∧ i = .int .i64 (m : Int) ∧ RowAt c 16 (yv t) wr ∧ RowAt (c + 1) 16 (yv fun j => if j < m then addF b t j else 0#8) wr ∧ Ext w wr) (fun i _ => 16 - (intOf i).toNat)
  case atStart => exact ⟨0, by omega, rfl, HT2.out, HZ2.out.congr fun j _ => by simp only [yv]; rw [if_neg (by omega)], HE2.out⟩
  case round =>
    clear HT2 HZ2 HE2
    obtain ⟨m, hm, rfl, hT, hR, hE⟩ := hrel
    have HT := hideit hT
    have HR := hideit hR
    have HE := hideit hE
    by_cases hlt : m < 16
    · have m0 : (0 : Int) ≤ (m : Int) := by omega
      have m1 : (m : Int) < 16 := by omega
      have e1 := hR.1 m (by omega)
      have g1 := hR.2.1 m (by omega)
      have e2 : wr.cell? ⟨c, m, none⟩ = some (.int .u8 ((t m).toNat : Int)) := hT.1 m hlt
      have e3 : wr.cell? (a.add m) = some (.int .u8 ((b m).toNat : Int)) := (hB.out.carry hE).1 m hlt
      have o3 : bits .xor .u8 ((b m).toNat : Int) ((t m).toNat : Int) = ((addF b t m).toNat : Int) := xB_fact _ _
      clear hT hR hE
      go_upto_region 5 with (fail)
      go_region
      have HS := hideit (RowAt.set HR.out m (.int .u8 ((addF b t m).toNat : Int))).drew
      have HBu : But (c + 1) wr (wr.setCell ⟨c + 1, m, none⟩ (.int .u8 ((addF b t m).toNat : Int))).drew := (but_setCell _ _ _ _).drew
      have HE' : Hid (Ext w _) := hideit (Ext.but HE.out HBu (by omega))
      have HT' := hideit (RowAt.but HT.out HBu (by omega))
      clear HR HE HT HBu e1 g1 e2 e3
      generalize (wr.setCell ⟨c + 1, m, none⟩ (.int .u8 ((addF b t m).toNat : Int))).drew = Y at *
      go_wp2
      go_roundw
      case rel =>
        have h1 : RowAt (c + 1) 16 (yv fun j => if j < m + 1 then addF b t j else 0#8) Y := HS.out.congr fun j _ => by
          simp only [yv]
          by_cases e : j = m
          · subst e; rw [if_pos rfl, if_pos (by omega)]
          · rw [if_neg e]
            by_cases h : j < m
            · rw [if_pos h, if_pos (by omega)]
            · rw [if_neg h, if_neg (by omega)]
        first | exact ⟨(m + 1 : Nat), by omega, by go_num, HT'.out, h1, HE'.out⟩ | ((repeat apply Exists.intro); exact ⟨⟨m + 1, by omega, by go_num, HT'.out, h1, HE'.out⟩, rfl⟩)
      case measure => simp [intOf]; omega
    · obtain rfl : m = 16 := by omega
      clear hT hR hE
      obtain ⟨f, hf⟩ : ∃ f, f = addF b t := ⟨_, rfl⟩
      have HF : Hid (RowAt (c + 1) 16 (yv f) wr) := hideit (HR.out.congr fun j hj => by simp only [yv]; rw [if_pos hj, hf])
      clear HR
      obtain ⟨E, hEE⟩ : ∃ E, E = (decF S1 ubT twT r) f := ⟨_, rfl⟩
      obtain ⟨x1, kb1, cp1, x2, kb2, cp2, p1, p2, p3, p4, p5, _⟩ := hP.out.ext (Ext.trans HE.out (Ext.draw (Ext.refl wr)))
      have e1 : ∀ k : Kept (Ext wr.drew), k.w.cell? ⟨q, 0, none⟩ = some (.pointer (some ⟨x1, 0, none⟩)) := fun k => (Below.cell k.ok (p := ⟨q, 0, none⟩) p5).trans p1
      replace p3 := hideit p3
      have hrn : Hid (∀ X, Ext wr.drew X → Calls Try.prog 15 #[.pointer (some ⟨x1, 0, none⟩), .agg (row 16 (yv f)).toArray] X fun e w' => e = .returned (.agg (row 16 (yv E)).toArray) ∧ Below X.heap.size X w') := fun X hX => by rw [hEE]; exact rdec_as x1 kb1 cp1 r S1 f hr hr2 X (p3.out.carry hX)
      replace hEE := hideit hEE
      replace hf := hideit hf
      clear p1 p2 p3 p4
      have hne := kept_ne wr.drew
      go_upto_region 7 with (fail)
      refine wp_region_late 6 (by kernel_rfl) (by kernel_rfl) (by decide) ?_
      simp only [List.take_succ_cons, List.take_zero, List.drop_succ_cons, List.drop_zero]
      refine wpStrong_run 5 rfl ?_
      simp only [List.take_succ_cons, List.take_zero, List.drop_succ_cons, List.drop_zero]
      go_big_quiet_step (fail)
      go_big_quiet_step (fail)
      go_big_quiet_step (fail)
      go_big_quiet_step (fail)
      go_big_quiet_want
      refine loadQ 23 (.tmp 9) (c + 1) 0 16 (yv f) rfl rfl (fun w' hw' => (RowAt.carry (RowAt.drew HF.out) hw').range) Try.underlying23 rfl info32 ?_
      simp only [Act.put, List.setIfInBounds_toArray, List.set_cons_zero, List.set_cons_succ]
      go_big_quiet_on
      refine wpQuiet_nil ?_
      refine wpStrong_call rfl (fun X => by simp [go_sem]) (fun X hX => hrn.out X hX) ?_
      simp only [Act.put, List.setIfInBounds_toArray, List.set_cons_zero, List.set_cons_succ]
      refine wpStrong_nil ?_
      intro X hX
      have hX' : Ext wr X := Ext.trans ((Below.refl _ _).drew) hX
      have HFX := hideit (HF.out.carry hX')
      have HTX := hideit (HT.out.carry hX')
      have HEX : Hid (Ext w X) := hideit (Ext.trans HE.out hX')
      clear hne e1 hX hX' hrn HF HT HE p5
      refine wpList_store_mid rfl 23 (.tmp 9) (.tmp 33) rfl _ 0 (row 16 (yv E)).toArray rfl rfl (by rw [row_size]; exact HFX.out.there) (by rw [row_size]; exact info32) (row_one fun _ _ => rfl) ?_
      have HBu : But (c + 1) X (X.setCells (c + 1) 0 (row 16 (yv E))) := But.sets _ 0 _ (But.refl _ _)
      have HE3 := hideit (HFX.out.cells (g' := yv E))
      have HT3 := hideit (RowAt.but HTX.out HBu (by omega))
      have HX3 : Hid (Ext w _) := hideit (Ext.but HEX.out HBu (by omega))
      clear HFX HTX HEX HBu
      generalize X.setCells (c + 1) 0 (row 16 (yv E)) = Y at *
      simp only [Act.put]
      go_upto_region 11 with (fail)
      go_loopw [11, 12] (fun v i wr => ∃ m : Nat, m ≤ 16 ∧ i = .int .i64 (m : Int) ∧ RowAt c 16 (yv t) wr ∧ RowAt (c + 1) 16 (yv E) wr ∧ OwnB (c + 1 + 1) 5 v m (yv (addF E t)) wr ∧ Ext w wr) (fun _ i _ => 16 - (intOf i).toNat)
      case atStart => exact ⟨0, by omega, rfl, HT3.out, HE3.out, own_nil _ _ _ _, HX3.out⟩
      case round =>
        clear HT3 HE3 HX3
        obtain ⟨m, hm, rfl, hT, hR, hO, hE⟩ := hrel
        have HT := hideit hT
        have HR := hideit hR
        have HO := hideit hO
        have HE := hideit hE
        clear hT hR hO hE
        by_cases hlt : m < 16
        · have m0 : (0 : Int) ≤ (m : Int) := by omega
          have m1 : (m : Int) < 16 := by omega
          have e1 : ∀ k : Kept (Ext wr.drew), k.w.cell? ⟨c + 1, m, none⟩ = some (.int .u8 ((E m).toNat : Int)) := fun k => (HR.out.drew.carry k.ok).1 m hlt
          have e2 : ∀ k : Kept (Ext wr.drew), k.w.cell? ⟨c, m, none⟩ = some (.int .u8 ((t m).toNat : Int)) := fun k => (HT.out.drew.carry k.ok).1 m hlt
          have o3 : bits .xor .u8 ((E m).toNat : Int) ((t m).toNat : Int) = ((addF E t m).toNat : Int) := xB_fact _ _
          have hne := kept_ne wr.drew
          go_upto_region 13 with (fail)
          refine wp_region_mixn 8 2 _ _ rfl rfl (by kernel_rfl) (by kernel_rfl) (by decide +kernel) (by decide +kernel) (by decide +kernel) (by decide +kernel) ?_
          simp only [List.take_succ_cons, List.take_zero]
          refine wpStrong_run 8 rfl ?_
          simp only [List.take_succ_cons, List.take_zero, List.drop_succ_cons, List.drop_zero]
          repeat (go_big_quiet_step (fail))
          refine wpQuiet_nil ?_
          refine wpStrong_nil ?_
          clear e1 e2 hne
          refine ⟨1, fun _ => .int .u8 ((addF E t m).toNat : Int), fun b => .slice (some ⟨b, 0, none⟩) 1 1, ⟨rfl, fun X hX => ⟨#[.int .u8 ((addF E t m).toNat : Int)], 5, ?_, fun j hj => ?_⟩⟩, fun d X hd hX hR1 => ?_⟩
          · simp [go_sem]
          · obtain rfl : j = 0 := by omega
            rfl
          have hX' : Ext wr X := Ext.trans ((Below.refl _ _).drew) hX
          have HOX := HO.out.ext hX'
          simp only [Act.put, List.setIfInBounds_toArray, List.set_cons_zero, List.set_cons_succ]
          refine wpList_grow elem22 rfl (.tmp 44) (.tmp 52) rfl rfl HOX ⟨d, 0, none⟩ 1 1 (fun _ => .int .u8 ((addF E t m).toNat : Int)) (yv (addF E t)) rfl (lie_of_row hR1) (fun _ _ => rfl) (fun _ _ => rfl) (fun j hj => by cases (show j = 0 by omega); rfl) (by omega) (by have := HR.out.2.2; have := Below.size hX'; omega) ?_
          intro v3 w3 ho hg
          have hlt3 := HOX.lt
          have H1 := hideit (RowAt.grown (HT.out.carry hX') hg (fun h => by have := (hlt3 c h.symm).1; omega))
          have H2 := hideit (RowAt.grown (HR.out.carry hX') hg (fun h => by have := (hlt3 (c + 1) h.symm).1; omega))
          have H3 : Hid (Ext w w3) := hideit (gr_ext (Ext.trans HE.out hX') hg (fun k h => by have := (hlt3 k h).1; omega))
          replace ho := hideit ho
          clear hg hlt3 HOX hR1 hX hX' hd HT HR HO HE
          simp only [Act.put, List.setIfInBounds_toArray, List.set_cons_zero, List.set_cons_succ]
          go_wp2
          go_roundw
          case rel =>
            first | exact ⟨(m + 1 : Nat), by omega, by go_num, H1.out, H2.out, ho.out, H3.out⟩ | ((repeat apply Exists.intro); exact ⟨⟨m + 1, by omega, by go_num, H1.out, H2.out, ho.out, H3.out⟩, rfl⟩)
          case measure => simp [intOf]; omega
        · obtain rfl : m = 16 := by omega
          have HOF : OwnB w.heap.size 5 u11 16 (yv (addF ((decF S1 ubT twT r) (addF b t)) t)) wr := by
            rw [← hf.out, ← hEE.out]
            exact ⟨HO.out.1, HO.out.2.imp id fun ⟨g, cp, cur, k1, k2, k3⟩ => ⟨g, cp, cur, k1, by omega, k3⟩⟩
          replace HOF := hideit HOF
          go_wp2
          go_ret
          exact ⟨u11, rfl, HOF.out, HE.out⟩
end Go.Proofs.Ytkoodgfadedeoaa
namespace Go.Proofs.Ytkoodgfadedeoaa
open Go.RowKit
section
variable {P : Program} {ops : Array Oper} {W : World} {Q : Exit → Act → World → Prop}
structure LateAt (P : Program) (ops : Array Oper) (W : World) (Q : Exit → Act → World → Prop) (ql ll : List Nat) (lops : List Oper) (L : Array Bool) (A : Act) (w : World) : Prop where
  size : L.size = ops.size
  closed : Closed ops L
  way : ((∀ i ∈ ll, L.getD i false = false) ∧ Ext W w ∧ wpS P ops W (fun A' => ∀ w', Ext W w' → wpList P ops Q lops A' w') (lf L ql) A) ∨
    ((∀ k ∈ ql, L.getD k false = true) ∧ ∃ l1 l2 lo2, ll = l1 ++ l2 ∧ (∀ k ∈ l1, L.getD k false = true) ∧ (∀ k ∈ l2, L.getD k false = false) ∧ l2.map (ops[·]?) = lo2.map some ∧ wpList P ops Q lo2 A w)
theorem wpAny_lateF {a : Act} {w : World} (L0 : Array Bool) (fuel : Nat) (hfu : L0.toList.count false ≤ fuel) (hz0 : L0.size = ops.size) (hc0 : Closed ops L0) (ql ll : List Nat) (lops : List Oper) (hB : textB ops = true) (hll : ll.map (ops[·]?) = lops.map some)
    (hnd : (ql ++ ll).Nodup) (hcov0 : ∀ i, i < ops.size → L0.getD i false = true ∨ i ∈ ql ++ ll) (hin0 : ∀ i ∈ ql ++ ll, i < ops.size ∧ L0.getD i false = false) (hq : ql.Pairwise (fun k j => edgeB ops k j = true))
    (hl1 : ∀ j ∈ ll, ∀ k ∈ ql, waits ops ops.size j k = true) (hl2 : ll.Pairwise (fun k j => waits ops ops.size j k = true))
    (h : wpS P ops w (fun A' => ∀ w', Ext w w' → wpList P ops Q lops A' w') ql a) : wpAny P .any ops Q fuel L0 a w := by
  obtain ⟨hsel, htx⟩ := textB_spec hB
  obtain ⟨nq, nl, ndis⟩ := List.nodup_append.1 hnd
  have lq : ∀ i ∈ ll, i ∉ ql := fun i hi e => ndis i e i hi rfl
  have hin : ∀ i ∈ ql ++ ll, i < ops.size := fun i hi => (hin0 i hi).1
  refine wpAny_inv (I := fun L A X => LateAt P ops w Q ql ll lops L A X ∧ ∀ k, L0.getD k false = true → L.getD k false = true) ?hs ?he fuel L0 a w hfu ?h0
  case h0 =>
    refine ⟨⟨hz0, hc0, .inl ⟨fun i hi => (hin0 i (by simp [hi])).2, Ext.refl _, ?_⟩⟩, fun _ hk => hk⟩
    rw [lf_all fun k hk => by rw [← getD_flip' (by rw [hz0]; exact hin k (by simp [hk]))]; exact (hin0 k (by simp [hk])).2]
    exact h
  case hs =>
    intro L A X i o hIM ho hl hdeps
    obtain ⟨hI, hM⟩ := hIM
    have hil : i < ops.size := (Array.getElem?_eq_some_iff.1 ho).1
    have hiL : i < L.size := by rw [hI.size]; exact hil
    have hlf := getD_flip hl
    have hsize : (L.setIfInBounds i true).size = ops.size := by simp [hI.size]
    have hclosed := hI.closed.step ho hdeps
    have hM' : ∀ k, L0.getD k false = true → (L.setIfInBounds i true).getD k false = true := fun k hk => by
      by_cases e : i = k
      · subst e; exact getD_same hiL
      · rw [getD_set_ne false e]; exact hM k hk
    have hcov : i ∈ ql ++ ll := by
      rcases hcov0 i hil with h1 | h1
      · rw [hM i h1] at hlf; cases hlf
      · exact h1
    have hap : ∀ k, edgeB ops k i = true → L.getD k true = false → ∀ ok, ops[k]? = some ok → ok.apart ops o = true := by
      intro k hed hk ok hok
      rcases edgeB_spec ho hok hed with ⟨e, he, hbe, rfl⟩ | h2
      · have h3 := hdeps e he hbe
        rw [getD_flip hk] at h3
        cases h3
      · exact h2
    have hwt : ∀ k, waits ops ops.size i k = true → L.getD k false = true := fun k hk => waits_listed hI.closed _ i k o ho hdeps hk
    have keep : ∀ k d, i ≠ k → (L.setIfInBounds i true).getD k d = L.getD k d := fun k d hk => getD_set_ne d hk
    have hfl : ∀ k, k < ops.size → L.getD k false = L.getD k true := fun k hk => getD_flip' (by rw [hI.size]; exact hk)
    rcases hI.way with ⟨w2, hX, hw⟩ | ⟨w2, l1, l2, lo2, e1, e2, e3, e4, hw⟩
    · rcases List.mem_append.1 hcov with hiq | hil2
      · obtain ⟨r1, r2, s1, s2, s3⟩ := lf_split nq hq hiq hl
        rw [s1] at hw
        obtain ⟨v, hv, hr⟩ := wpS_take hsel ho r2 r1 A (fun k hk => hap k (s3 k hk).1 (s3 k hk).2) hw
        refine StrongY.wpOp ho hX hv fun w' hw' => ⟨⟨hsize, hclosed, .inl ⟨fun k hk => ?_, hX.trans hw', ?_⟩⟩, hM'⟩
        · rw [keep k _ (fun e => lq k hk (e ▸ hiq))]; exact w2 k hk
        · rw [s2]; exact hr
      · have hall : ∀ k ∈ ql, L.getD k false = true := fun k hk => hwt k (hl1 i hil2 k hk)
        rw [lf_nil fun k hk => by rw [← hfl k (hin k (by simp [hk]))]; exact hall k hk] at hw
        have hw2 : wpList P ops Q lops A X := hw X hX
        cases hll' : ll with
        | nil => rw [hll'] at hil2; cases hil2
        | cons j l2 =>
          have hij : i = j := by
            rw [hll'] at hil2 hl2
            rcases List.mem_cons.1 hil2 with rfl | h2
            · rfl
            · have := hwt j ((List.pairwise_cons.1 hl2).1 i h2)
              rw [w2 j (by rw [hll']; exact List.mem_cons_self)] at this
              cases this
          subst hij
          rw [hll'] at hll nl
          cases lops with
          | nil => simp at hll
          | cons o' lo2 =>
            simp only [List.map_cons, List.cons.injEq] at hll
            rw [ho] at hll
            obtain ⟨ho', hrest⟩ := hll
            injection ho' with ho'
            subst ho'
            refine wpOp_of_list ho hw2 fun a' w' hh => ⟨⟨hsize, hclosed, .inr ⟨fun k hk => ?_, [i], l2, lo2, rfl, fun k hk => ?_, fun k hk => ?_, hrest, hh⟩⟩, hM'⟩
            · rw [keep k _ (fun e => lq i (by rw [hll']; exact List.mem_cons_self) (e ▸ hk))]; exact hall k hk
            · obtain rfl : k = i := by simpa using hk
              exact getD_same hiL
            · rw [keep k _ (fun e => (List.nodup_cons.1 nl).1 (e ▸ hk))]
              exact w2 k (by rw [hll']; exact List.mem_cons_of_mem _ hk)
    · rcases List.mem_append.1 hcov with hiq | hil2
      · rw [w2 i hiq] at hlf; cases hlf
      · have hi2 : i ∈ l2 := by
          rw [e1] at hil2
          rcases List.mem_append.1 hil2 with h2 | h2
          · rw [e2 i h2] at hlf; cases hlf
          · exact h2
        cases l2 with
        | nil => cases hi2
        | cons j l3 =>
          have hl2' := hl2
          have nl' := nl
          rw [e1] at hl2' nl'
          have hij : i = j := by
            rcases List.mem_cons.1 hi2 with rfl | h2
            · rfl
            · have := hwt j ((List.pairwise_cons.1 (List.pairwise_append.1 hl2').2.1).1 i h2)
              rw [e3 j List.mem_cons_self] at this
              cases this
          subst hij
          cases lo2 with
          | nil => simp at e4
          | cons o' lo3 =>
            simp only [List.map_cons, List.cons.injEq] at e4
            rw [ho] at e4
            obtain ⟨ho', hrest⟩ := e4
            injection ho' with ho'
            subst ho'
            obtain ⟨_, nl2, nl3⟩ := List.nodup_append.1 nl'
            refine wpOp_of_list ho hw fun a' w' hh => ⟨⟨hsize, hclosed, .inr ⟨fun k hk => ?_, l1 ++ [i], l3, lo3, by rw [e1]; simp, fun k hk => ?_, fun k hk => ?_, hrest, hh⟩⟩, hM'⟩
            · rw [keep k _ (fun e => lq i hil2 (e ▸ hk))]; exact w2 k hk
            · rcases List.mem_append.1 hk with h2 | h2
              · rw [keep k _ (fun e => nl3 k h2 i List.mem_cons_self e.symm)]; exact e2 k h2
              · obtain rfl : k = i := by simpa using h2
                exact getD_same hiL
            · rw [keep k _ (fun e => (List.nodup_cons.1 nl2).1 (e ▸ hk))]
              exact e3 k (List.mem_cons_of_mem _ hk)
  case he =>
    intro L A X hIM hr
    obtain ⟨hI, hM⟩ := hIM
    have hall : ∀ n k, k < n → k < ops.size → L.getD k false = true := by
      intro n
      induction n with
      | zero => intro k hk; omega
      | succ n ih =>
        intro k hk hkn
        cases hv : L.getD k false with
        | true => rfl
        | false =>
          exfalso
          have ho : ops[k]? = some ops[k] := Array.getElem?_eq_getElem hkn
          have hmem : k ∈ Region.ready .any ops L := mem_ready.2 ⟨by rw [← getD_flip' (by rw [hI.size]; omega)]; exact hv, ops[k], ho, fun e he hbe => ih e.on (by have := htx k _ ho e he hbe; omega) (by have := htx k _ ho e he hbe; omega)⟩
          rw [hr] at hmem
          cases hmem
    have hk : ∀ k, k < ops.size → L.getD k false = true := fun k hk => hall (k + 1) k (by omega) hk
    rcases hI.way with ⟨w2, hX, hw⟩ | ⟨w2, l1, l2, lo2, e1, e2, e3, e4, hw⟩
    · rw [lf_nil fun k hk2 => by rw [← getD_flip' (by rw [hI.size]; exact hin k (by simp [hk2]))]; exact hk k (hin k (by simp [hk2]))] at hw
      have hw2 : wpList P ops Q lops A X := hw X hX
      cases hll' : ll with
      | nil =>
        rw [hll'] at hll
        have : lops = [] := by cases lops with | nil => rfl | cons _ _ => simp at hll
        rw [this] at hw2
        exact hw2
      | cons j l2 =>
        have := w2 j (by rw [hll']; exact List.mem_cons_self)
        rw [hk j (hin j (by rw [hll']; simp))] at this
        cases this
    · cases l2 with
      | nil =>
        have : lo2 = [] := by cases lo2 with | nil => rfl | cons _ _ => simp at e4
        rw [this] at hw
        exact hw
      | cons j l3 =>
        have := e3 j List.mem_cons_self
        rw [hk j (hin j (by rw [e1]; simp))] at this
        cases this
theorem wp_region_lateF {id : Nat} {a : Act} {w : World} (fl : List Nat) (flo : List Oper) (ql : List Nat) (qlo : List Oper) (ll : List Nat) (lops : List Oper) (hmo : P.follows .mixedOrders = true) (hns : Region.noSelect ops = true) (hQ : ∀ c a t v w, Q (.panic c) (a.put (some t) v) w → Q (.panic c) a w) (hB : textB ops = true)
    (hfl : fl.map (ops[·]?) = flo.map some) (htk : takesB ops fl (Array.replicate ops.size false) = true) (hql : ql.map (ops[·]?) = qlo.map some) (hll : ll.map (ops[·]?) = lops.map some)
    (hfu : fl.length ≤ ops.size ∧ (listAll fl (Array.replicate ops.size false)).toList.count false ≤ ops.size - fl.length) (hz0 : (listAll fl (Array.replicate ops.size false)).size = ops.size) (hc0 : closedB ops (listAll fl (Array.replicate ops.size false)) = true)
    (hnd : (ql ++ ll).Nodup) (hcov : ∀ i ∈ List.range ops.size, (listAll fl (Array.replicate ops.size false)).getD i false = true ∨ i ∈ ql ++ ll) (hin : ∀ i ∈ ql ++ ll, i < ops.size ∧ (listAll fl (Array.replicate ops.size false)).getD i false = false)
    (hq : ql.Pairwise (fun k j => edgeB ops k j = true))
    (hl1 : ∀ j ∈ ll, ∀ k ∈ ql, waits ops ops.size j k = true) (hl2 : ll.Pairwise (fun k j => waits ops ops.size j k = true))
    (h : wpPure P ops (fun A => wpStrong P ops w.drew (fun A' => ∀ w', Ext w.drew w' → wpList P ops Q lops A' w') qlo A) flo a) : (Code.region id ops true).wp P Q a w := by
  refine wp_region_any hmo ?_
  have h1 := wpAny_pures (P := P) (Q := Q) (w := w.drew) hns hQ fl flo (Array.replicate ops.size false) a (ops.size - fl.length) hfl htk
  rw [Nat.sub_add_cancel hfu.1] at h1
  refine h1 ?_
  have key : ∀ A, wpStrong P ops w.drew (fun A' => ∀ w', Ext w.drew w' → wpList P ops Q lops A' w') qlo A → wpAny P .any ops Q (ops.size - fl.length) (listAll fl (Array.replicate ops.size false)) A w.drew := fun A hA =>
    wpAny_lateF (listAll fl (Array.replicate ops.size false)) _ hfu.2 hz0 (closedB_spec hc0) ql ll lops hB hll hnd (fun i hi => hcov i (by simpa using hi)) hin hq hl1 hl2 (wpS_of_list ql qlo A hql hA)
  clear h1 hfl
  induction flo generalizing a with
  | nil => exact key a h
  | cons o r ih =>
    obtain ⟨v, y, h2⟩ := h
    exact ⟨v, y, ih h2⟩
end
end Go.Proofs.Ytkoodgfadedeoaa
