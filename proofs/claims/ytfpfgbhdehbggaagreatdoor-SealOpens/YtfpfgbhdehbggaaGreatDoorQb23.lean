/-
  Units enciphered: the small functions. Units enciphered: block by block. Units enciphered: what is left, a whole block and a short one.
-/
import Derived.Test.YtfpfgbhdehbggaaGreatDoorQb1
import Derived.Test.YtfpfgbhdehbggaaGreatDoorQb19
import Derived.Test.YtfpfgbhdehbggaaGreatDoorQb21
import Derived.Test.YtfpfgbhdehbggaaGreatDoorQb22
import Derived.Test.YtfpfgbhdehbggaaGreatDoorQb8
import Derived.Deep.CutRange
import Derived.Deep.RegionWith
import Derived.OwnWalk
namespace Go.Proofs.YtfpfgbhdehbggaaGreatDoor
set_option maxRecDepth 20000
open Go.RowKit Go.BigFrame
set_option maxRecDepth 20000 in
set_option maxHeartbeats 1000000 in
theorem xadd_any (f k : Nat → BitVec 8) (w : World) :
    Calls Tryz.prog 61 #[.agg (row 16 (yv f)).toArray, .agg (row 16 (yv k)).toArray] w fun e w' => e = .returned (.agg (row 16 (yv (addF f k))).toArray) ∧ Below w.heap.size w w' := by
  have hz := zero32
  go_enter Tryz.func61, Tryz.ntmps61
  go_wp2
  go_loopw [6] (fun i wr => ∃ n : Nat, n ≤ 16 ∧ i = .int .i64 n ∧ AddAt w.heap.size w f k n wr) (fun i _ => 16 - (intOf i).toNat)
  case atStart =>
    refine ⟨0, by omega, rfl, ?_, ?_, ?_, ?_⟩
    · exact (((RowAt.new w 16 (yv f) 52).alloc _).alloc _).congr (fun j _ => by simp [yv])
    · have := (RowAt.new (w.alloc (Obj.cells (row 16 (yv f)).toArray 52)) 16 (yv k) 52).alloc (Obj.cells Y16 52)
      simpa using this
    · have := RowAt.newOf ((w.alloc (Obj.cells (row 16 (yv f)).toArray 52)).alloc (Obj.cells (row 16 (yv k)).toArray 52)) 16 (yv fun _ => 0#8) 52 Y16 (fun j hj => Y16_get j hj _ rfl)
      simpa using this
    · exact (((Below.refl _ _).alloc (Nat.le_refl _) _).alloc (by simp) _).alloc (by simp; omega) _
  case round =>
    obtain ⟨n, hn, rfl, hT⟩ := hrel
    by_cases hlt : n < 16
    · have HT := hideit hT
      obtain ⟨h1, h2, _, _⟩ := hT
      have e1 := h1.1 n hlt
      have e2 := h2.1 n hlt
      have g1 := h1.2.1 n hlt
      simp only [yv, if_neg (Nat.lt_irrefl n)] at e1 e2
      clear h1 h2
      have b1 := (f n).isLt
      have b2 := (k n).isLt
      have o1 : bits .xor .u8 ((f n).toNat : Int) ((k n).toNat : Int) = ((addF f k n).toNat : Int) := xB_fact _ _
      have i0 : (0 : Int) ≤ (n : Int) := by omega
      have i1 : (n : Int) < 16 := by omega
      go_wp2
      go_region
      all_goals (try go_wp2)
      go_roundw
      case rel =>
        first | exact ⟨(n + 1 : Nat), by omega, by go_num, HT.out.step⟩ | ((repeat apply Exists.intro); exact ⟨⟨n + 1, by omega, by go_num, HT.out.step⟩, rfl⟩)
      case measure => simp [intOf]; omega
    · obtain rfl : n = 16 := by omega
      obtain ⟨h1, _, h3, hB⟩ := hT
      have HR := hideit (h1.congr (g' := yv (addF f k)) (fun j hj => by simp [yv, hj]))
      have HR0 := hideit h3
      clear h1 h3
      go_wp2_with (first | (refine wpList_load_mid rfl 52 (.tmp 2) rfl _ 0 rfl (row 16 (yv (addF f k))) _ HR.out.range Tryz.underlying52 rfl (by rw [row_length]; exact info32) ?_) | (refine wpList_store_mid rfl 52 (.tmp 4) (.tmp 18) rfl _ 0 (row 16 (yv (addF f k))).toArray rfl rfl (by rw [row_size]; exact HR0.out.there) (by rw [row_size]; exact info32) (row_one fun _ _ => rfl) ?_))
      refine bodyPost_ret (v := .agg (row 16 (yv (addF f k))).toArray) ?_ rfl ⟨rfl, below_setCells _ (by omega) _ _ _ hB⟩
      have hl := run_loadVar_mid (P := Tryz.prog) (wr.setCells (w.heap.size + 1 + 1) 0 (row 16 (yv (addF f k)))) (w.heap.size + 1 + 1) 0 52 (row 16 (yv (addF f k))) _ (HR0.out.cells (g' := yv (addF f k))).range Tryz.underlying52 rfl (by rw [row_length]; exact info32)
      simp [results, Tryz.results61, Act.put, asAddr, hl]
set_option maxRecDepth 20000 in
set_option maxHeartbeats 1000000 in
theorem blockOf_any (a : Addr) (l cap : Nat) (b : Nat → BitVec 8) (w : World) (hl : 16 ≤ l) (hB : LieAt a l (yv b) w) :
    Calls Tryz.prog 66 #[.slice (some a) l cap] w fun e w' => e = .returned (.agg (row 16 (yv b)).toArray) ∧ Below w.heap.size w w' := by
  have hz := store_Y16
  obtain ⟨c, hc⟩ : ∃ c, c = w.heap.size := ⟨_, rfl⟩
  have HR0 : RowAt c 16 (yv fun _ => 0#8) ((w.alloc (.cells (row 16 (yv fun _ => 0#8)).toArray 52)).alloc (.cells (row 16 (yv fun _ => 0#8)).toArray 52)) := by rw [hc]; exact (RowAt.new w 16 (yv fun _ => 0#8) 52).alloc _
  have HR1 : RowAt (c + 1) 16 (yv fun _ => 0#8) ((w.alloc (.cells (row 16 (yv fun _ => 0#8)).toArray 52)).alloc (.cells (row 16 (yv fun _ => 0#8)).toArray 52)) := by
    have := RowAt.new (w.alloc (.cells (row 16 (yv fun _ => 0#8)).toArray 52)) 16 (yv fun _ => 0#8) 52
    rw [hc]; simpa using this
  have HB2 : Below w.heap.size w ((w.alloc (.cells (row 16 (yv fun _ => 0#8)).toArray 52)).alloc (.cells (row 16 (yv fun _ => 0#8)).toArray 52)) := ((Below.refl _ _).alloc (Nat.le_refl _) _).alloc (by simp) _
  have HL := hideit (hB.carry HB2)
  replace HR0 := hideit HR0
  replace HR1 := hideit HR1
  replace HB2 := hideit HB2
  replace hl := hideit hl
  clear hB
  go_enter Tryz.func66, Tryz.ntmps66
  go_upto_region 2 with (fail)
  rw [← hc]
  have hcw : w.heap.size ≤ c := by omega
  clear hc
  generalize (w.alloc (.cells (row 16 (yv fun _ => 0#8)).toArray 52)).alloc (.cells (row 16 (yv fun _ => 0#8)).toArray 52) = X at *
  refine wp_region_lit ?_
  refine wpList_run rfl (.slice (some ⟨c + 1, 0, none⟩) 16 16) (by simp [go_sem]) ?_
  simp only [zp0, zp1, zp2, zp3]
  refine wpList_run rfl (.slice (some a) l cap) (by simp [go_sem]) ?_
  simp only [zp0, zp1, zp2, zp3]
  refine wpList_copy_row rfl (.tmp 4) (.tmp 5) 25 25 rfl 5 Tryz.underlying25 info5A (c + 1) 16 (yv fun _ => 0#8) HR1.out 0 16 16 a l cap rfl rfl 16 (yv b) (by have := hl.out; exact (Nat.min_eq_right this).symm) (fun j hj => HL.out.1 j (by have := hl.out; omega)) (by omega) (fun _ _ => rfl) ?_
  have HY1 := hideit (RowAt.congr (HR1.out.part 0 16 (yv b) (by omega)) (g' := yv b) fun j hj => by rw [if_pos (by omega), Nat.sub_zero])
  have HY0 := hideit (HR0.out.cellsOther (c := c + 1) (by omega) (row 16 (yv b)) 0)
  have HYB := hideit (below_setCells (c + 1) (by omega) (row 16 (yv b)) 0 _ HB2.out)
  clear HR0 HR1 HB2 HL
  generalize X.setCells (c + 1) 0 (row 16 (yv b)) = Y at *
  simp only [zp0, zp1, zp2, zp3]
  go_wp2_with (first | (refine wpList_load_mid rfl 52 (.tmp 3) rfl _ 0 rfl (row 16 (yv b)) _ HY1.out.range Tryz.underlying52 rfl (by rw [row_length]; exact info32) ?_) | (refine wpList_store_mid rfl 52 (.tmp 2) (.tmp 7) rfl _ 0 (row 16 (yv b)).toArray rfl rfl (by rw [row_size]; exact HY0.out.there) (by rw [row_size]; exact info32) (row_one fun _ _ => rfl) ?_))
  exact bodyPost_ret (ret_row Tryz.results66 rfl (HY0.out.cells (g' := yv b)) Tryz.underlying52 rfl info32) rfl ⟨rfl, below_setCells _ hcw _ _ _ HYB.out⟩
def chF (cF : (Nat → BitVec 8) → Nat → BitVec 8) (t : BitVec 128) (f : Nat → BitVec 8) : Nat → BitVec 8 := addF (cF (addF f (byBA t))) (byBA t)
set_option maxRecDepth 20000 in
set_option maxHeartbeats 2000000 in
theorem betw_any (g : FuncId) (hg : ∀ args X, (callFunc g args).run Tryz.prog X = .ok (.enter g args) X) (p : Value) (cF : (Nat → BitVec 8) → Nat → BitVec 8) (t : BitVec 128) (f : Nat → BitVec 8) (b : Nat) (w : World) (hcell : w.cell? ⟨b, 0, none⟩ = some (.func (.func g) #[p] #[]))
    (hci : ∀ X, Ext w X → ∀ f, Calls Tryz.prog g #[p, .agg (row 16 (yv f)).toArray] X fun e w' => e = .returned (.agg (row 16 (yv (cF f))).toArray) ∧ Below X.heap.size X w') :
    Calls Tryz.prog 59 #[.agg #[.int .u64 ((lo t).toNat : Int), .int .u64 ((hi t).toNat : Int)], .agg (row 16 (yv f)).toArray, .pointer (some ⟨b, 0, none⟩)] w fun e w' => e = .returned (.agg (row 16 (yv (chF cF t f))).toArray) ∧ Below w.heap.size w w' := by
  have hz := store_Y16
  have hbw : b < w.heap.size := World.block_lt_of_cell? w _ hcell
  obtain ⟨c, hc⟩ : ∃ c, c = w.heap.size := ⟨_, rfl⟩
  obtain ⟨W3, hW3⟩ : ∃ W3, W3 = ((w.alloc (.cells #[.int .u64 ((lo t).toNat : Int), .int .u64 ((hi t).toNat : Int)] 77)).alloc (.cells (row 16 (yv f)).toArray 52)).alloc (.cells (row 16 (yv fun _ => 0#8)).toArray 52) := ⟨_, rfl⟩
  have HE3 : Ext w W3 := by rw [hW3]; exact (((Below.refl _ _).alloc (Nat.le_refl _) _).alloc (by simp) _).alloc (by simp; omega) _
  have hs3 : W3.heap.size = c + 3 := by rw [hW3, hc]; simp
  have HF3 : RowAt (c + 1) 16 (yv f) W3 := by
    have := (RowAt.new (w.alloc (.cells #[.int .u64 ((lo t).toNat : Int), .int .u64 ((hi t).toNat : Int)] 77)) 16 (yv f) 52).alloc (.cells (row 16 (yv fun _ => 0#8)).toArray 52)
    rw [hW3, hc]; simpa using this
  have HZ3 : RowAt (c + 1 + 1) 16 (yv fun _ => 0#8) W3 := by
    have := RowAt.new ((w.alloc (.cells #[.int .u64 ((lo t).toNat : Int), .int .u64 ((hi t).toNat : Int)] 77)).alloc (.cells (row 16 (yv f)).toArray 52)) 16 (yv fun _ => 0#8) 52
    rw [hW3, hc]; simpa using this
  have hcl3 : W3.cell? ⟨b, 0, none⟩ = some (.func (.func g) #[p] #[]) := (Below.cell HE3 (p := ⟨b, 0, none⟩) hbw).trans hcell
  replace hW3 := hideit hW3
  replace HE3 := hideit HE3
  replace HF3 := hideit HF3
  replace HZ3 := hideit HZ3
  replace hcl3 := hideit hcl3
  replace hci := hideit hci
  replace hg := hideit hg
  clear hcell
  have hby := bytes_any t
  generalize hm : byBA t = m at *
  replace hm := hideit hm
  go_enter Tryz.func59, Tryz.ntmps59
  go_upto_region 1 with (fail)
  rw [← hW3.out, ← hc]
  have hcw : w.heap.size ≤ c := by omega
  have HH3 : HalfAt c t W3 := by
    have h0 : W3.cell? ⟨c, 0, none⟩ = some (.int .u64 ((lo t).toNat : Int)) := by rw [hW3.out, hc]; simp [go_sem]
    have h1 : W3.cell? ⟨c, 1, none⟩ = some (.int .u64 ((hi t).toNat : Int)) := by rw [hW3.out, hc]; simp [go_sem]
    have h2 : W3.frozen? ⟨c, 0, none⟩ = false := by rw [hW3.out, hc]; simp [go_sem]
    have h3 : W3.frozen? ⟨c, 1, none⟩ = false := by rw [hW3.out, hc]; simp [go_sem]
    exact ⟨h0, h1, h2, h3⟩
  have eh0 := HH3.1
  have eh1 := HH3.2.1
  clear hc hW3 HH3
  replace hby := hideit hby
  obtain ⟨HD, hHD⟩ : ∃ HD : World → World → Prop, HD = fun X Y => Ext X Y := ⟨_, rfl⟩
  go_upto_region 2 with (first | (go_at_call 60; refine (hby.out _).mono ?_; rintro e w4 ⟨rfl, h4⟩; have HX4 : Hid (Ext W3 w4) := hideit h4; clear h4 eh0 eh1; obtain ⟨d, hd⟩ : ∃ d, d = w4.heap.size := ⟨_, rfl⟩; have HN4 : Hid (RowAt d 16 (yv fun _ => 0#8) (w4.alloc (.cells (row 16 (yv fun _ => 0#8)).toArray 52))) := hideit (by rw [hd]; exact RowAt.new w4 16 (yv fun _ => 0#8) 52)) | (rw [← hd]; refine wpList_store_mid rfl 52 (.tmp 6) (.tmp 8) rfl _ 0 (row 16 (yv m)).toArray rfl rfl (by rw [row_size]; exact HN4.out.there) (by rw [row_size]; exact info32) (row_one fun _ _ => rfl) ?_))
  clear hHD
  have HX5 : Ext W3 (w4.alloc (.cells (row 16 (yv fun _ => 0#8)).toArray 52)) := Ext.trans HX4.out ((Below.refl _ _).alloc (Nat.le_refl _) _)
  have hd3 : W3.heap.size ≤ d := by have := Below.size HX4.out; omega
  have HX6 : Hid (Ext W3 ((w4.alloc (.cells (row 16 (yv fun _ => 0#8)).toArray 52)).setCells d 0 (row 16 (yv m)))) := hideit (below_setCells d hd3 (row 16 (yv m)) 0 _ HX5)
  have HM6 := hideit (HN4.out.cells (g' := yv m))
  clear HN4 HX5 HX4 hd
  generalize (w4.alloc (.cells (row 16 (yv fun _ => 0#8)).toArray 52)).setCells d 0 (row 16 (yv m)) = Y at *
  simp only [Act.put]
  have e0 : ∀ k : Kept (Ext Y.drew), k.w.cell? ⟨b, 0, none⟩ = some (.func (.func g) #[p] #[]) := fun k => by
    have h := Ext.trans (Ext.trans HX6.out ((Below.refl _ _).drew)) k.ok
    exact (Below.cell h (p := ⟨b, 0, none⟩) (by show b < _; omega)).trans hcl3.out
  have HF : Hid (∀ X, Ext Y.drew X → RowAt (c + 1) 16 (yv f) X) := fun X hX => ((HF3.out.carry HX6.out).drew).carry hX
  have HM : Hid (∀ X, Ext Y.drew X → RowAt d 16 (yv m) X) := fun X hX => (HM6.out.drew).carry hX
  have hne := kept_ne Y.drew
  refine wp_region_late 7 (by kernel_rfl) (by kernel_rfl) (by decide) ?_
  simp only [List.take_succ_cons, List.take_zero, List.drop_succ_cons, List.drop_zero]
  refine wpStrong_run 3 rfl ?_
  simp only [List.take_succ_cons, List.take_zero, List.drop_succ_cons, List.drop_zero]
  go_big_quiet_step (fail)
  go_big_quiet_want
  refine loadQ 52 (.tmp 4) (c + 1) 0 16 (yv f) rfl rfl (fun w' hw' => (HF.out w' hw').range) Tryz.underlying52 rfl info32 ?_
  simp only [zp0, zp1, zp2, zp3]
  go_big_quiet_on
  go_big_quiet_want
  refine loadQ 52 (.tmp 6) d 0 16 (yv m) rfl rfl (fun w' hw' => (HM.out w' hw').range) Tryz.underlying52 rfl info32 ?_
  simp only [zp0, zp1, zp2, zp3]
  go_big_quiet_on
  refine wpQuiet_nil ?_
  refine wpStrong_call rfl (fun X => by simp [go_sem]) (fun X _ => xadd_any f m X) ?_
  simp only [zp0, zp1, zp2, zp3]
  refine wpStrong_call rfl (fun X => by simp [go_sem, hg.out]) (fun X hX => hci.out X (Ext.trans (Ext.trans (Ext.trans HE3.out HX6.out) ((Below.refl _ _).drew)) hX) (addF f m)) ?_
  simp only [zp0, zp1, zp2, zp3]
  refine wpStrong_run 1 rfl ?_
  simp only [List.take_succ_cons, List.take_zero, List.drop_succ_cons, List.drop_zero]
  go_big_quiet_want
  refine loadQ 52 (.tmp 6) d 0 16 (yv m) rfl rfl (fun w' hw' => (HM.out w' hw').range) Tryz.underlying52 rfl info32 ?_
  simp only [zp0, zp1, zp2, zp3]
  go_big_quiet_on
  refine wpQuiet_nil ?_
  refine wpStrong_call rfl (fun X => by simp [go_sem]) (fun X _ => xadd_any (cF (addF f m)) m X) ?_
  simp only [zp0, zp1, zp2, zp3]
  refine wpStrong_nil ?_
  intro X hX
  have HZ : RowAt (c + 1 + 1) 16 (yv fun _ => 0#8) X := ((HZ3.out.carry HX6.out).drew).carry hX
  have HEX : Ext w X := Ext.trans (Ext.trans (Ext.trans HE3.out HX6.out) ((Below.refl _ _).drew)) hX
  replace HZ := hideit HZ
  replace HEX := hideit HEX
  clear hX e0 hne HF HM
  refine wpList_store_mid rfl 52 (.tmp 5) (.tmp 15) rfl _ 0 (row 16 (yv (addF (cF (addF f m)) m))).toArray rfl rfl (by rw [row_size]; exact HZ.out.there) (by rw [row_size]; exact info32) (row_one fun _ _ => rfl) ?_
  go_wp2
  refine bodyPost_ret (ret_row Tryz.results59 rfl (HZ.out.cells (g' := yv (addF (cF (addF f m)) m))) Tryz.underlying52 rfl info32) rfl ⟨?_, below_setCells _ (by omega) _ _ _ HEX.out⟩
  unfold chF
  rw [hm.out]
theorem enters12 : ∀ args X, (callFunc 34 args).run Tryz.prog X = .ok (.enter 34 args) X := fun args X => by simp [go_sem]
theorem enters14 : ∀ args X, (callFunc 51 args).run Tryz.prog X = .ok (.enter 51 args) X := fun args X => by simp [go_sem]
def betwV (b : Nat) : Value := .func (.func 59) #[] #[.pointer (some ⟨b, 0, none⟩)]
theorem between_any (g : FuncId) (p : Value) (w : World) : Calls Tryz.prog 33 #[.func (.func g) #[p] #[]] w fun e w' => e = .returned (betwV w.heap.size) ∧ w'.cell? ⟨w.heap.size, 0, none⟩ = some (.func (.func g) #[p] #[]) ∧ Below w.heap.size w w' := by
  go_enter Tryz.func33, Tryz.ntmps33
  go_wp2
  go_ret
  exact ⟨rfl, by simp [go_sem], (Below.refl _ _).alloc (Nat.le_refl _) _⟩
def hvA (t : BitVec 128) (j : Nat) : Value := if j = 0 then .int .u64 ((lo t).toNat : Int) else .int .u64 ((hi t).toNat : Int)
theorem hv_row (t : BitVec 128) : row 2 (hvA t) = [.int .u64 ((lo t).toNat : Int), .int .u64 ((hi t).toNat : Int)] := rfl
theorem info80 : (Tryz.prog.info? 77).map (·.size) = some 2 := by kernel_rfl
theorem hv_one (t : BitVec 128) : (row 2 (hvA t)).toArray.all (·.oneCell') = true := row_one fun j _ => by unfold hvA; split <;> rfl
structure PairAt (q c1 c2 r : Nat) (S1 S2 : Nat → BitVec 8) (w : World) : Prop where
  one : w.cell? ⟨q, 0, none⟩ = some (.pointer (some ⟨c1, 0, none⟩))
  two : w.cell? ⟨q, 1, none⟩ = some (.pointer (some ⟨c2, 0, none⟩))
  blocks : CipherAt c1 r S1 bxT ubT twT w
  tweaks : CipherAt c2 r S2 bxT ubT twT w
  inQ : q < w.heap.size
theorem PairAt.ext {q c1 c2 r : Nat} {S1 S2 : Nat → BitVec 8} {w X : World} (h : PairAt q c1 c2 r S1 S2 w) (k : Ext w X) : PairAt q c1 c2 r S1 S2 X :=
  ⟨(Below.cell k (p := ⟨q, 0, none⟩) h.inQ).trans h.one, (Below.cell k (p := ⟨q, 1, none⟩) h.inQ).trans h.two, h.blocks.carry k, h.tweaks.carry k, Nat.lt_of_lt_of_le h.inQ (Below.size k)⟩
theorem PairAt.drew {q c1 c2 r : Nat} {S1 S2 : Nat → BitVec 8} {w : World} (h : PairAt q c1 c2 r S1 S2 w) : PairAt q c1 c2 r S1 S2 w.drew := h.ext ((Below.refl _ _).drew)
def tw0 (S2 : Nat → BitVec 8) (r : Nat) (u : BitVec 64) : BitVec 128 := ofB (encF S2 bxT twT r (byBA (jn u 0#64)))
set_option maxRecDepth 20000 in
set_option maxHeartbeats 2000000 in
theorem first_anyA (q c1 c2 r : Nat) (S1 S2 : Nat → BitVec 8) (hr : 1 ≤ r) (hr2 : r ≤ 14) (u : BitVec 64) (w : World) (hP : PairAt q c1 c2 r S1 S2 w) :
    Calls Tryz.prog 36 #[.pointer (some ⟨q, 0, none⟩), .int .u64 (u.toNat : Int)] w fun e w' => e = .returned (.agg #[.int .u64 ((lo (tw0 S2 r u)).toNat : Int), .int .u64 ((hi (tw0 S2 r u)).toNat : Int)]) ∧ Below w.heap.size w w' := by
  have hz := store_Y16
  obtain ⟨x, hx⟩ : ∃ x, x = jn u 0#64 := ⟨_, rfl⟩
  have hby := bytes_any x
  have hlo : (lo x).toNat = u.toNat := by rw [hx, lo_jn]
  have hhi : (hi x).toNat = 0 := by rw [hx, hi_jn]; rfl
  rw [hlo, hhi] at hby
  have hby' : ∀ w : World, Calls Tryz.prog 60 #[.agg #[.int .u64 (u.toNat : Int), .int .u64 0]] w fun e w' => e = .returned (.agg (row 16 (yv (byBA x))).toArray) ∧ Below w.heap.size w w' := hby
  clear hby hlo hhi
  generalize hm : byBA x = m at *
  replace hm := hideit hm
  replace hx := hideit hx
  replace hby' := hideit hby'
  obtain ⟨c, hc⟩ : ∃ c, c = w.heap.size := ⟨_, rfl⟩
  obtain ⟨W1, hW1⟩ : ∃ W1, W1 = w.alloc (.cells #[.int .u64 0, .int .u64 0] 77) := ⟨_, rfl⟩
  have HE1 : Ext w W1 := by rw [hW1]; exact (Below.refl _ _).alloc (Nat.le_refl _) _
  have HZ1 : RowAt c 2 (hvA 0#128) W1 := by rw [hW1, hc]; exact RowAt.new w 2 (hvA 0#128) 77
  replace hW1 := hideit hW1
  replace HE1 := hideit HE1
  replace HZ1 := hideit HZ1
  replace hP := hideit hP
  go_enter Tryz.func36, Tryz.ntmps36
  go_upto_region 1 with (fail)
  rw [← hW1.out, ← hc]
  have hcw : w.heap.size ≤ c := by omega
  clear hc hW1
  go_upto_region 2 with (first | (go_at_call 60; refine (hby'.out _).mono ?_; rintro e w4 ⟨rfl, h4⟩; have HX4 : Hid (Ext W1 w4) := hideit h4; clear h4; obtain ⟨d, hd⟩ : ∃ d, d = w4.heap.size := ⟨_, rfl⟩; have HN4 : Hid (RowAt d 16 (yv fun _ => 0#8) (w4.alloc (.cells (row 16 (yv fun _ => 0#8)).toArray 52))) := hideit (by rw [hd]; exact RowAt.new w4 16 (yv fun _ => 0#8) 52)) | (rw [← hd]; refine wpList_store_mid rfl 52 (.tmp 5) (.tmp 8) rfl _ 0 (row 16 (yv m)).toArray rfl rfl (by rw [row_size]; exact HN4.out.there) (by rw [row_size]; exact info32) (row_one fun _ _ => rfl) ?_))
  have HX5 : Ext W1 (w4.alloc (.cells (row 16 (yv fun _ => 0#8)).toArray 52)) := Ext.trans HX4.out ((Below.refl _ _).alloc (Nat.le_refl _) _)
  have hd3 : W1.heap.size ≤ d := by have := Below.size HX4.out; omega
  have HX6 : Hid (Ext W1 ((w4.alloc (.cells (row 16 (yv fun _ => 0#8)).toArray 52)).setCells d 0 (row 16 (yv m)))) := hideit (below_setCells d hd3 (row 16 (yv m)) 0 _ HX5)
  have HM6 := hideit (HN4.out.cells (g' := yv m))
  clear HN4 HX5 HX4 hd
  generalize (w4.alloc (.cells (row 16 (yv fun _ => 0#8)).toArray 52)).setCells d 0 (row 16 (yv m)) = Y at *
  simp only [Act.put]
  have HPY : Hid (∀ X, Ext Y.drew X → PairAt q c1 c2 r S1 S2 X) := fun X hX => hP.out.ext (Ext.trans (Ext.trans (Ext.trans HE1.out HX6.out) ((Below.refl _ _).drew)) hX)
  have e1 : ∀ k : Kept (Ext Y.drew), k.w.cell? ⟨q, 1, none⟩ = some (.pointer (some ⟨c2, 0, none⟩)) := fun k => (HPY.out k.w k.ok).two
  have HM : Hid (∀ X, Ext Y.drew X → RowAt d 16 (yv m) X) := fun X hX => (HM6.out.drew).carry hX
  have hne := kept_ne Y.drew
  refine wp_region_late 7 (by kernel_rfl) (by kernel_rfl) (by decide) ?_
  simp only [List.take_succ_cons, List.take_zero, List.drop_succ_cons, List.drop_zero]
  refine wpStrong_run 5 rfl ?_
  simp only [List.take_succ_cons, List.take_zero, List.drop_succ_cons, List.drop_zero]
  go_big_quiet_step (fail)
  go_big_quiet_step (fail)
  go_big_quiet_step (fail)
  go_big_quiet_step (fail)
  go_big_quiet_want
  refine loadQ 52 (.tmp 5) d 0 16 (yv m) rfl rfl (fun w' hw' => (HM.out w' hw').range) Tryz.underlying52 rfl info32 ?_
  simp only [zp0, zp1, zp2, zp3]
  go_big_quiet_on
  refine wpQuiet_nil ?_
  refine wpStrong_call rfl (fun X => by simp [go_sem]) (fun X hX => enc_any c2 r S2 bxT ubT twT m hr hr2 X (HPY.out X hX).tweaks) ?_
  simp only [zp0, zp1, zp2, zp3]
  obtain ⟨E, hE⟩ : ∃ E, E = encF S2 bxT twT r m := ⟨_, rfl⟩
  rw [← hE]
  replace hE := hideit hE
  refine wpStrong_call rfl (fun X => by simp [go_sem]) (fun X _ => of_any E X) ?_
  simp only [zp0, zp1, zp2, zp3]
  refine wpStrong_nil ?_
  intro X hX
  have HZ : RowAt c 2 (hvA 0#128) X := ((HZ1.out.carry HX6.out).drew).carry hX
  have HEX : Ext w X := Ext.trans (Ext.trans (Ext.trans HE1.out HX6.out) ((Below.refl _ _).drew)) hX
  replace HZ := hideit HZ
  replace HEX := hideit HEX
  clear hX e1 hne HM HPY
  refine wpList_store_mid rfl 77 (.tmp 4) (.tmp 15) rfl _ 0 (row 2 (hvA (ofB E))).toArray rfl rfl (by rw [row_size]; exact HZ.out.there) (by rw [row_size]; exact info80) (hv_one _) ?_
  go_wp2
  refine bodyPost_ret (ret_row Tryz.results36 rfl (HZ.out.cells (g' := hvA (ofB E))) Tryz.underlying77 rfl info80) rfl ⟨?_, below_setCells _ (by omega) _ _ _ HEX.out⟩
  unfold tw0
  rw [← hx.out, hm.out, ← hE.out]
  rfl
theorem refusal_ok (q : Addr) (a : Option Addr) (l cap : Nat) (h : 16 ≤ l) (h' : l ≤ 65536) (w : World) : Calls Tryz.prog 32 #[.pointer (some q), .slice a l cap] w fun e w' => e = .returned (.int .i64 0) ∧ w' = w := by
  have h2 : ¬ (l : Int) < 16 := by omega
  have h3 : ¬ (65536 : Int) < (l : Int) := by omega
  go_enter Tryz.func32, Tryz.ntmps32
  go_wp2
  go_ret
  exact ⟨rfl, rfl⟩
end Go.Proofs.YtfpfgbhdehbggaaGreatDoor
namespace Go.Proofs.YtfpfgbhdehbggaaGreatDoor
set_option maxRecDepth 20000
open Go.RowKit Go.BigFrame
theorem add_add' (a : Addr) (i j : Nat) : (a.add i).add j = a.add (i + j) := by
  unfold Addr.add
  by_cases hi : i = 0
  · subst hi; simp
  · rw [if_neg hi]
    by_cases hj : j = 0
    · subst hj; simp [hi]
    · rw [if_neg hj, if_neg (by omega)]; simp; omega
theorem makes23 {o : Oper} (hg : o.guard = none) (ho : o.op = .alloc 52) : Makes Tryz.prog o 16 (yv fun _ => 0#8) := ⟨hg, fun ρ w => ⟨(row 16 (yv fun _ => 0#8)).toArray, 52, by
  unfold execOp
  rw [ho]
  simp [go_sem]
  rfl, fun j hj => by rw [List.getElem?_toArray]; exact row_get 16 _ j hj⟩⟩
theorem ret_tmp_row {P : Program} {F : Func} {tmps : Array Value} {k1 k : Nat} {t : TypeId} {b n : Nat} {g : Nat → Value} {X : World} {d : TypeDesc} (hF : F.results = #[.tmp k1, .cell k t]) (ht : tmps.getD k undef = .pointer (some ⟨b, 0, none⟩)) (h : RowAt b n g X)
    (hu : P.underlying t = some d) (hd : d.isRow = true) (hi : (P.info? t).map (·.size) = some n) : Sem.run P (results F tmps) X = .ok (.tuple #[tmps.getD k1 undef, .agg (row n g).toArray]) X := by
  have hl := run_loadVar_mid (P := P) X b 0 t (row n g) d h.range hu hd (by rw [row_length]; exact hi)
  unfold results
  rw [hF]
  simp only [List.mapM_toArray, List.mapM_cons, List.mapM_nil, ht]
  simp [asAddr, hl]
theorem lie_of_row {b n : Nat} {g : Nat → Value} {w : World} (h : RowAt b n g w) : LieAt ⟨b, 0, none⟩ n g w := ⟨fun j hj => by
  have hadd : (⟨b, 0, none⟩ : Addr).add j = ⟨b, j, none⟩ := by unfold Addr.add; split <;> simp_all
  rw [hadd]
  exact h.1 j hj, h.2.2⟩
theorem gr_ext {w X Y : World} {row : Option Nat} (h : Ext w X) (hg : X.grownBy Y row) (hr : ∀ k, row = some k → w.heap.size ≤ k) : Ext w Y := Below.trans h (below_grown (Below.size h) hg hr)
theorem elem22A : ElemIs Tryz.prog 25 5 := elem_is Tryz.underlying25 (by kernel_rfl) (by kernel_rfl) (by kernel_rfl)
theorem info5p : (Tryz.prog.info? 5).map (fun i => (i.zero, i.size, i.bytes)) = some (some (.int .u8 0), 1, 1) := by kernel_rfl
def fronts (ch : BitVec 128 → (Nat → BitVec 8) → Nat → BitVec 8) (t : BitVec 128) (D : Nat → BitVec 8) (j : Nat) : BitVec 8 := ch (dK 135#128 (j / 16) t) (fun i => D (16 * (j / 16) + i)) (j % 16)
def EachAt (c : Nat) (w : World) (ch : BitVec 128 → (Nat → BitVec 8) → Nat → BitVec 8) (t : BitVec 128) (D : Nat → BitVec 8) (n : Nat) (v : Value) (X : World) : Prop :=
  RowAt c 2 (hvA (dK 135#128 n t)) X ∧ RowAt (c + 1) 2 (hvA 0#128) X ∧ OwnB (c + 1 + 1) 5 v (16 * n) (yv (fronts ch t D)) X ∧ Ext w X
set_option maxRecDepth 20000 in
set_option maxHeartbeats 4000000 in
theorem each_any (l cap nb : Nat) (a : Addr) (D : Nat → BitVec 8) (t : BitVec 128) (b : Nat) (ch : BitVec 128 → (Nat → BitVec 8) → Nat → BitVec 8) (w : World) (hl1 : 16 ≤ l) (hl2 : l ≤ 65536) (hcap : l ≤ cap) (hD : LieAt a l (yv D) w)
    (hnb : (l % 16 = 0 ∧ l = 16 * nb) ∨ (l % 16 ≠ 0 ∧ l = 16 * nb + 16 + l % 16))
    (hch : ∀ X, Ext w X → ∀ t f, Calls Tryz.prog 59 #[.agg #[.int .u64 ((lo t).toNat : Int), .int .u64 ((hi t).toNat : Int)], .agg (row 16 (yv f)).toArray, .pointer (some ⟨b, 0, none⟩)] X fun e w' => e = .returned (.agg (row 16 (yv (ch t f))).toArray) ∧ Below X.heap.size X w') :
    Calls Tryz.prog 35 #[.slice (some a) l cap, .agg #[.int .u64 ((lo t).toNat : Int), .int .u64 ((hi t).toNat : Int)], betwV b] w fun e w' => ∃ v, e = .returned (.tuple #[v, .agg #[.int .u64 ((lo (dK 135#128 nb t)).toNat : Int), .int .u64 ((hi (dK 135#128 nb t)).toNat : Int)]]) ∧ OwnB w.heap.size 5 v (16 * nb) (yv (fronts ch t D)) w' ∧ Below w.heap.size w w' := by
  have hz := store_Y16
  obtain ⟨ti, hi1, hi2, hi3, hi4⟩ := info_parts info5p
  replace hch := hideit hch
  replace hD := hideit hD
  unfold betwV
  obtain ⟨c, hc⟩ : ∃ c, c = w.heap.size := ⟨_, rfl⟩
  obtain ⟨W2, hW2⟩ : ∃ W2, W2 = (w.alloc (.cells #[.int .u64 ((lo t).toNat : Int), .int .u64 ((hi t).toNat : Int)] 77)).alloc (.cells #[.int .u64 0, .int .u64 0] 77) := ⟨_, rfl⟩
  have HE2 : Ext w W2 := by rw [hW2]; exact ((Below.refl _ _).alloc (Nat.le_refl _) _).alloc (by simp) _
  have hs2 : W2.heap.size = c + 1 + 1 := by rw [hW2, hc]; simp
  have HH2 : RowAt c 2 (hvA t) W2 := by rw [hW2, hc]; exact (RowAt.new w 2 (hvA t) 77).alloc _
  have HZ2 : RowAt (c + 1) 2 (hvA 0#128) W2 := by
    have h : RowAt ((w.alloc (.cells #[.int .u64 ((lo t).toNat : Int), .int .u64 ((hi t).toNat : Int)] 77)).heap.size) 2 (hvA 0#128) ((w.alloc (.cells #[.int .u64 ((lo t).toNat : Int), .int .u64 ((hi t).toNat : Int)] 77)).alloc (.cells #[.int .u64 0, .int .u64 0] 77)) := RowAt.new _ 2 (hvA 0#128) 77
    rw [hW2, hc]; simpa using h
  replace HE2 := hideit HE2
  replace HH2 := hideit HH2
  replace HZ2 := hideit HZ2
  replace hW2 := hideit hW2
  obtain ⟨sh, hsh⟩ : ∃ sh, sh = l % 16 := ⟨_, rfl⟩
  have hmod : ((l : Int)).tmod 16 = (sh : Int) := by rw [hsh, Int.tmod_eq_emod_of_nonneg (by omega)]; omega
  have l0 : (0 : Int) ≤ (l : Int) := by omega
  have l1 : (l : Int) ≤ 65536 := by omega
  have l2 : (l : Int) ≤ (cap : Int) := by omega
  rcases hnb with ⟨hm, hnb⟩ | ⟨hm, hnb⟩
  · have hs0 : ¬ (0 : Int) < (sh : Int) := by omega
    have hM : Hid ((l : Int) = 16 * (nb : Int)) := by unfold Hid; omega
    replace hnb := hideit hnb
    replace hsh := hideit hsh
    clear hm
    go_enter Tryz.func35, Tryz.ntmps35
    go_upto_region 5 with (fail)
    rw [← hW2.out, ← hc]
    have hcw : w.heap.size ≤ c := by omega
    clear hc hW2
    refine wp_region_lit ?_
    refine wpList_run rfl (.slice (some a) l cap) (by simp [go_sem]) ?_
    simp only [zp0, zp1, zp2, zp3]
    refine wpList_run rfl (.int .i64 (l : Int)) (by simp [go_sem]) ?_
    simp only [zp0, zp1, zp2, zp3]
    refine wpList_make_own W2 rfl (.const (.int .i64 0)) (.tmp 25) 25 rfl (c + 1 + 1) 5 ti (.int .u8 0) 1 Tryz.underlying25 hi1 hi2 hi3 .i64 .i64 (l : Int) l rfl rfl rfl (by rw [hi4]; omega) (by unfold maxLen; omega) (by omega) ?_
    intro W3 hown hgr
    have HE3 : Ext W2 W3 := gr_ext (Ext.refl _) hgr (fun k h => by cases h)
    have HI : EachAt c w ch t D 0 (.slice (some ⟨W2.heap.size, 0, none⟩) 0 l) W3 := ⟨HH2.out.carry HE3, HZ2.out.carry HE3, hown, Ext.trans HE2.out HE3⟩
    replace HI := hideit HI
    clear hown hgr HE3 HH2 HZ2 HE2 hs2
    generalize Value.slice (some ⟨W2.heap.size, 0, none⟩) 0 l = v0 at *
    simp only [zp0, zp1, zp2, zp3]
    go_upto_region 7 with (fail)
    go_loopw [10, 11] (fun v i wr => ∃ n : Nat, n ≤ nb ∧ i = .int .i64 (16 * (n : Int)) ∧ EachAt c w ch t D n v wr) (fun _ i _ => 65600 - (intOf i).toNat)
    case atStart => exact ⟨0, by omega, by simp, HI.out⟩
    case round =>
      clear HI
      obtain ⟨n, hn, rfl, hI⟩ := hrel
      have HI := hideit hI
      clear hI
      by_cases hlt : n < nb
      · have n0 : (0 : Int) ≤ (n : Int) := by omega
        have n1 : 16 * (n : Int) < (l : Int) := by have := hM.out; omega
        have n2 : 16 * (n : Int) ≤ 65536 := by omega
        have n3 : 16 * (n : Int) ≤ (l : Int) := by omega
        have n4 : ¬ cap = 16 * n := by omega
        have n5 : 16 * (n : Int) ≤ (cap : Int) := by omega
        have n6 : (16 * (n : Int)).toNat = 16 * n := by omega
        obtain ⟨T, hT⟩ : ∃ T, T = dK 135#128 n t := ⟨_, rfl⟩
        have HH : RowAt c 2 (hvA T) wr := by rw [hT]; exact HI.out.1
        have e0 : ∀ k : Kept (Ext wr.drew), k.w.cell? ⟨c, 0, none⟩ = some (.int .u64 ((lo T).toNat : Int)) := fun k => (HH.drew.carry k.ok).1 0 (by omega)
        have e1 : ∀ k : Kept (Ext wr.drew), k.w.cell? ⟨c, 1, none⟩ = some (.int .u64 ((hi T).toNat : Int)) := fun k => (HH.drew.carry k.ok).1 1 (by omega)
        replace HH := hideit HH
        replace hT := hideit hT
        obtain ⟨f, hf⟩ : ∃ f : Nat → BitVec 8, f = fun j => D (16 * n + j) := ⟨_, rfl⟩
        have HL : Hid (∀ X, Ext wr.drew X → LieAt (a.add (16 * n)) (l - 16 * n) (yv f) X) := fun X hX => by
          have h1 : LieAt a l (yv D) X := (hD.out.carry HI.out.2.2.2).carry (Ext.trans ((Below.refl _ _).drew) hX)
          refine ⟨fun j hj => ?_, by rw [add_block]; exact h1.2⟩
          rw [add_add', h1.1 (16 * n + j) (by omega), hf]
          rfl
        replace hf := hideit hf
        have hne := kept_ne wr.drew
        go_upto_region 9 with (fail)
        refine wp_region_made 7 16 (yv fun _ => 0#8) _ (by kernel_rfl) (by kernel_rfl) rfl (makes23 rfl rfl) ?_
        simp only [List.take_succ_cons, List.take_zero, List.drop_succ_cons, List.drop_zero]
        refine wpStrong_run 5 rfl ?_
        simp only [List.take_succ_cons, List.take_zero, List.drop_succ_cons, List.drop_zero]
        repeat (go_big_quiet_step (fail))
        refine wpQuiet_nil ?_
        refine wpStrong_call rfl (fun X => by simp [go_sem]) (fun X hX => blockOf_any (a.add (16 * n)) (l - 16 * n) (cap - 16 * n) f X (by have := hnb.out; omega) (HL.out X hX)) ?_
        simp only [zp0, zp1, zp2, zp3]
        refine wpStrong_call rfl (fun X => by simp [go_sem]) (fun X hX => hch.out X (Ext.trans (Ext.trans HI.out.2.2.2 ((Below.refl _ _).drew)) hX) T f) ?_
        simp only [zp0, zp1, zp2, zp3]
        refine wpStrong_nil ?_
        intro d X hd hX hR
        have hX' : Ext wr X := Ext.trans ((Below.refl _ _).drew) hX
        have hcd : c + 1 < wr.heap.size := HI.out.2.1.2.2
        have HI1 : EachAt c w ch t D n u10 X := ⟨HI.out.1.carry hX', HI.out.2.1.carry hX', HI.out.2.2.1.ext hX', Ext.trans HI.out.2.2.2 hX'⟩
        have hud : u10.ownBlock ≠ some d := fun h => by have := (HI.out.2.2.1.lt d h).2; omega
        replace HI1 := hideit HI1
        replace hR := hideit hR
        obtain ⟨G, hG⟩ : ∃ G, G = ch T f := ⟨_, rfl⟩
        have hGG : Hid (∀ j, j < 16 → G j = fronts ch t D (16 * n + j)) := fun j hj => by
          unfold fronts
          rw [show (16 * n + j) / 16 = n by omega, show (16 * n + j) % 16 = j by omega, hG, hT.out, hf.out]
        rw [← hG]
        clear hG hne e0 e1 HL HH hX hX' HI
        refine wpList_store_mid rfl 52 (.tmp 12) (.tmp 38) rfl _ 0 (row 16 (yv G)).toArray rfl rfl (by rw [row_size]; exact hR.out.there) (by rw [row_size]; exact info32) (row_one fun _ _ => rfl) ?_
        have HBu : But d X (X.setCells d 0 (row 16 (yv G))) := But.sets _ 0 _ (But.refl _ _)
        have HI2 : EachAt c w ch t D n u10 (X.setCells d 0 (row 16 (yv G))) := ⟨RowAt.but HI1.out.1 HBu (by omega), RowAt.but HI1.out.2.1 HBu (by omega), HI1.out.2.2.1.but HBu hud, Ext.but HI1.out.2.2.2 HBu (by omega)⟩
        have HG2 := hideit (hR.out.cells (g' := yv G))
        replace HI2 := hideit HI2
        clear HI1 hR HBu
        generalize X.setCells d 0 (row 16 (yv G)) = Y at *
        simp only [Act.put]
        go_upto_region 10 with (fail)
        refine wp_region_lit ?_
        refine wpList_run rfl u10 (by simp [go_sem]) ?_
        simp only [zp0, zp1, zp2, zp3]
        refine wpList_run rfl (.slice (some ⟨d, 0, none⟩) 16 16) (by simp [go_sem]) ?_
        simp only [zp0, zp1, zp2, zp3]
        refine wpList_grow elem22A rfl (.tmp 39) (.tmp 40) rfl rfl HI2.out.2.2.1 ⟨d, 0, none⟩ 16 16 (yv G) (yv (fronts ch t D)) rfl (lie_of_row HG2.out) (fun _ _ => rfl) (fun _ _ => rfl) (fun j hj => by simp only [yv]; rw [hGG.out j hj]) (by omega) (by have := HI2.out.2.1.2.2; omega) ?_
        intro v3 w3 ho hgr
        have hlt3 := HI2.out.2.2.1.lt
        have H3 : RowAt c 2 (hvA T) w3 := RowAt.grown (by rw [hT.out]; exact HI2.out.1) hgr (fun h => by have := (hlt3 c h.symm).1; omega)
        have H4 : RowAt (c + 1) 2 (hvA 0#128) w3 := RowAt.grown HI2.out.2.1 hgr (fun h => by have := (hlt3 (c + 1) h.symm).1; omega)
        have H5 : Ext w w3 := gr_ext HI2.out.2.2.2 hgr (fun k h => by have := (hlt3 k h).1; omega)
        rw [show 16 * n + 16 = 16 * (n + 1) by omega] at ho
        have e0 : w3.cell? ⟨c, 0, none⟩ = some (.int .u64 ((lo T).toNat : Int)) := H3.1 0 (by omega)
        have e1 : w3.cell? ⟨c, 1, none⟩ = some (.int .u64 ((hi T).toNat : Int)) := H3.1 1 (by omega)
        replace H3 := hideit H3
        replace H4 := hideit H4
        replace H5 := hideit H5
        replace ho := hideit ho
        clear hgr hlt3 HI2 HG2 hGG
        simp only [zp0, zp1, zp2, zp3]
        go_upto_region 11 with (fail)
        refine wp_region_lit ?_
        refine wpList_load_mid rfl 77 (.tmp 4) rfl _ 0 rfl (row 2 (hvA T)) _ H3.out.range Tryz.underlying77 rfl (by rw [row_length]; exact info80) ?_
        simp only [zp0, zp1, zp2, zp3]
        refine wpList_call rfl (by simp [go_sem, hv_row]) ((double_any T _).mono ?_)
        rintro e w4 ⟨rfl, h4⟩
        refine ⟨_, rfl, ?_⟩
        simp only [zp0, zp1, zp2, zp3]
        clear e0 e1
        have H3' := hideit (H3.out.carry h4)
        have H4' := hideit (H4.out.carry h4)
        have H5' : Hid (Ext w w4) := hideit (Ext.trans H5.out h4)
        have ho' := hideit (ho.out.ext h4)
        clear H3 H4 H5 ho h4
        refine wpList_store_mid rfl 77 (.tmp 4) (.tmp 43) rfl _ 0 (row 2 (hvA (dX 135#128 T))).toArray rfl rfl (by rw [row_size]; exact H3'.out.there) (by rw [row_size]; exact info80) (hv_one _) ?_
        have HBu : But c w4 (w4.setCells c 0 (row 2 (hvA (dX 135#128 T)))) := But.sets _ 0 _ (But.refl _ _)
        have HI5 : EachAt c w ch t D (n + 1) v3 (w4.setCells c 0 (row 2 (hvA (dX 135#128 T)))) := ⟨by
          show RowAt c 2 (hvA (dX 135#128 (dK 135#128 n t))) _
          rw [← hT.out]; exact H3'.out.cells, RowAt.but H4'.out HBu (by omega), ho'.out.but HBu (fun h => by have := (ho'.out.lt c h).1; omega), Ext.but H5'.out HBu (by omega)⟩
        replace HI5 := hideit HI5
        clear H3' H4' H5' ho' HBu
        generalize w4.setCells c 0 (row 2 (hvA (dX 135#128 T))) = Z at *
        simp only [Act.put]
        go_wp2
        go_roundw
        case rel =>
          have h1 := HI5.out
          first | exact ⟨(n + 1 : Nat), by omega, by go_num, h1⟩ | ((repeat apply Exists.intro); exact ⟨⟨n + 1, by omega, by go_num, h1⟩, rfl⟩)
        case measure => simp [intOf]; omega
      · obtain rfl : n = nb := by omega
        have n1 : ¬ 16 * (n : Int) < (l : Int) := by have := hM.out; omega
        go_upto_region 12 with (fail)
        obtain ⟨T, hT⟩ : ∃ T, T = dK 135#128 n t := ⟨_, rfl⟩
        have HH : RowAt c 2 (hvA T) wr := by rw [hT]; exact HI.out.1
        have e0 : ∀ k : Kept (Ext wr.drew), k.w.cell? ⟨c, 0, none⟩ = some (.int .u64 ((lo T).toNat : Int)) := fun k => (HH.drew.carry k.ok).1 0 (by omega)
        have e1 : ∀ k : Kept (Ext wr.drew), k.w.cell? ⟨c, 1, none⟩ = some (.int .u64 ((hi T).toNat : Int)) := fun k => (HH.drew.carry k.ok).1 1 (by omega)
        have hne := kept_ne wr.drew
        replace hT := hideit hT
        clear HH
        refine wp_region_late 3 (by kernel_rfl) (by kernel_rfl) (by decide) ?_
        simp only [List.take_succ_cons, List.take_zero, List.drop_succ_cons, List.drop_zero]
        refine wpStrong_run 3 rfl ?_
        simp only [List.take_succ_cons, List.take_zero, List.drop_succ_cons, List.drop_zero]
        repeat (go_big_quiet_step (fail))
        refine wpQuiet_nil ?_
        refine wpStrong_nil ?_
        intro X hX
        have hX' : Ext wr X := Ext.trans ((Below.refl _ _).drew) hX
        have HZ := hideit (HI.out.2.1.carry hX')
        have HO := hideit (HI.out.2.2.1.ext hX')
        have HE : Hid (Ext w X) := hideit (Ext.trans HI.out.2.2.2 hX')
        clear hX hX' e0 e1 hne HI
        refine wpList_store_mid rfl 77 (.tmp 7) (.tmp 45) rfl _ 0 (row 2 (hvA T)).toArray rfl rfl (by rw [row_size]; exact HZ.out.there) (by rw [row_size]; exact info80) (hv_one _) ?_
        have HBu : But (c + 1) X (X.setCells (c + 1) 0 (row 2 (hvA T))) := But.sets _ 0 _ (But.refl _ _)
        have HO2 := hideit (HO.out.but HBu (fun h => by have := (HO.out.lt (c + 1) h).1; omega))
        have HE2 := hideit (Ext.but HE.out HBu (by omega))
        have HZ2 := hideit (HZ.out.cells (g' := hvA T))
        clear HO HE HZ HBu
        generalize X.setCells (c + 1) 0 (row 2 (hvA T)) = Z at *
        simp only [Act.put]
        go_wp2
        refine bodyPost_ret (ret_tmp_row Tryz.results35 rfl HZ2.out Tryz.underlying77 rfl info80) rfl ⟨u10, ?_, ?_, HE2.out⟩
        · rw [← hT.out]; rfl
        · exact ⟨HO2.out.1, HO2.out.2.imp id fun ⟨g, cp, cur, h1, h2, h3⟩ => ⟨g, cp, cur, h1, by omega, h3⟩⟩
  · have hs0 : (0 : Int) < (sh : Int) := by omega
    have hs1 : (sh : Int) < 16 := by omega
    have hM : Hid ((l : Int) - (16 + (sh : Int)) = 16 * (nb : Int)) := by unfold Hid; omega
    have hs2' : 16 + (sh : Int) ≤ (l : Int) := by omega
    replace hnb := hideit hnb
    replace hsh := hideit hsh
    clear hm
    go_enter Tryz.func35, Tryz.ntmps35
    go_upto_region 5 with (fail)
    rw [← hW2.out, ← hc]
    have hcw : w.heap.size ≤ c := by omega
    clear hc hW2
    refine wp_region_lit ?_
    refine wpList_run rfl (.slice (some a) l cap) (by simp [go_sem]) ?_
    simp only [zp0, zp1, zp2, zp3]
    refine wpList_run rfl (.int .i64 (l : Int)) (by simp [go_sem]) ?_
    simp only [zp0, zp1, zp2, zp3]
    refine wpList_make_own W2 rfl (.const (.int .i64 0)) (.tmp 25) 25 rfl (c + 1 + 1) 5 ti (.int .u8 0) 1 Tryz.underlying25 hi1 hi2 hi3 .i64 .i64 (l : Int) l rfl rfl rfl (by rw [hi4]; omega) (by unfold maxLen; omega) (by omega) ?_
    intro W3 hown hgr
    have HE3 : Ext W2 W3 := gr_ext (Ext.refl _) hgr (fun k h => by cases h)
    have HI : EachAt c w ch t D 0 (.slice (some ⟨W2.heap.size, 0, none⟩) 0 l) W3 := ⟨HH2.out.carry HE3, HZ2.out.carry HE3, hown, Ext.trans HE2.out HE3⟩
    replace HI := hideit HI
    clear hown hgr HE3 HH2 HZ2 HE2 hs2
    generalize Value.slice (some ⟨W2.heap.size, 0, none⟩) 0 l = v0 at *
    simp only [zp0, zp1, zp2, zp3]
    go_upto_region 7 with (fail)
    go_loopw [10, 11] (fun v i wr => ∃ n : Nat, n ≤ nb ∧ i = .int .i64 (16 * (n : Int)) ∧ EachAt c w ch t D n v wr) (fun _ i _ => 65600 - (intOf i).toNat)
    case atStart => exact ⟨0, by omega, by simp, HI.out⟩
    case round =>
      clear HI
      obtain ⟨n, hn, rfl, hI⟩ := hrel
      have HI := hideit hI
      clear hI
      by_cases hlt : n < nb
      · have n0 : (0 : Int) ≤ (n : Int) := by omega
        have n1 : 16 * (n : Int) < (l : Int) - (16 + (sh : Int)) := by have := hM.out; omega
        have n2 : 16 * (n : Int) ≤ 65536 := by omega
        have n3 : 16 * (n : Int) ≤ (l : Int) := by omega
        have n4 : ¬ cap = 16 * n := by omega
        have n5 : 16 * (n : Int) ≤ (cap : Int) := by omega
        have n6 : (16 * (n : Int)).toNat = 16 * n := by omega
        obtain ⟨T, hT⟩ : ∃ T, T = dK 135#128 n t := ⟨_, rfl⟩
        have HH : RowAt c 2 (hvA T) wr := by rw [hT]; exact HI.out.1
        have e0 : ∀ k : Kept (Ext wr.drew), k.w.cell? ⟨c, 0, none⟩ = some (.int .u64 ((lo T).toNat : Int)) := fun k => (HH.drew.carry k.ok).1 0 (by omega)
        have e1 : ∀ k : Kept (Ext wr.drew), k.w.cell? ⟨c, 1, none⟩ = some (.int .u64 ((hi T).toNat : Int)) := fun k => (HH.drew.carry k.ok).1 1 (by omega)
        replace HH := hideit HH
        replace hT := hideit hT
        obtain ⟨f, hf⟩ : ∃ f : Nat → BitVec 8, f = fun j => D (16 * n + j) := ⟨_, rfl⟩
        have HL : Hid (∀ X, Ext wr.drew X → LieAt (a.add (16 * n)) (l - 16 * n) (yv f) X) := fun X hX => by
          have h1 : LieAt a l (yv D) X := (hD.out.carry HI.out.2.2.2).carry (Ext.trans ((Below.refl _ _).drew) hX)
          refine ⟨fun j hj => ?_, by rw [add_block]; exact h1.2⟩
          rw [add_add', h1.1 (16 * n + j) (by omega), hf]
          rfl
        replace hf := hideit hf
        have hne := kept_ne wr.drew
        go_upto_region 9 with (fail)
        refine wp_region_made 7 16 (yv fun _ => 0#8) _ (by kernel_rfl) (by kernel_rfl) rfl (makes23 rfl rfl) ?_
        simp only [List.take_succ_cons, List.take_zero, List.drop_succ_cons, List.drop_zero]
        refine wpStrong_run 5 rfl ?_
        simp only [List.take_succ_cons, List.take_zero, List.drop_succ_cons, List.drop_zero]
        repeat (go_big_quiet_step (fail))
        refine wpQuiet_nil ?_
        refine wpStrong_call rfl (fun X => by simp [go_sem]) (fun X hX => blockOf_any (a.add (16 * n)) (l - 16 * n) (cap - 16 * n) f X (by have := hnb.out; omega) (HL.out X hX)) ?_
        simp only [zp0, zp1, zp2, zp3]
        refine wpStrong_call rfl (fun X => by simp [go_sem]) (fun X hX => hch.out X (Ext.trans (Ext.trans HI.out.2.2.2 ((Below.refl _ _).drew)) hX) T f) ?_
        simp only [zp0, zp1, zp2, zp3]
        refine wpStrong_nil ?_
        intro d X hd hX hR
        have hX' : Ext wr X := Ext.trans ((Below.refl _ _).drew) hX
        have hcd : c + 1 < wr.heap.size := HI.out.2.1.2.2
        have HI1 : EachAt c w ch t D n u10 X := ⟨HI.out.1.carry hX', HI.out.2.1.carry hX', HI.out.2.2.1.ext hX', Ext.trans HI.out.2.2.2 hX'⟩
        have hud : u10.ownBlock ≠ some d := fun h => by have := (HI.out.2.2.1.lt d h).2; omega
        replace HI1 := hideit HI1
        replace hR := hideit hR
        obtain ⟨G, hG⟩ : ∃ G, G = ch T f := ⟨_, rfl⟩
        have hGG : Hid (∀ j, j < 16 → G j = fronts ch t D (16 * n + j)) := fun j hj => by
          unfold fronts
          rw [show (16 * n + j) / 16 = n by omega, show (16 * n + j) % 16 = j by omega, hG, hT.out, hf.out]
        rw [← hG]
        clear hG hne e0 e1 HL HH hX hX' HI
        refine wpList_store_mid rfl 52 (.tmp 12) (.tmp 38) rfl _ 0 (row 16 (yv G)).toArray rfl rfl (by rw [row_size]; exact hR.out.there) (by rw [row_size]; exact info32) (row_one fun _ _ => rfl) ?_
        have HBu : But d X (X.setCells d 0 (row 16 (yv G))) := But.sets _ 0 _ (But.refl _ _)
        have HI2 : EachAt c w ch t D n u10 (X.setCells d 0 (row 16 (yv G))) := ⟨RowAt.but HI1.out.1 HBu (by omega), RowAt.but HI1.out.2.1 HBu (by omega), HI1.out.2.2.1.but HBu hud, Ext.but HI1.out.2.2.2 HBu (by omega)⟩
        have HG2 := hideit (hR.out.cells (g' := yv G))
        replace HI2 := hideit HI2
        clear HI1 hR HBu
        generalize X.setCells d 0 (row 16 (yv G)) = Y at *
        simp only [Act.put]
        go_upto_region 10 with (fail)
        refine wp_region_lit ?_
        refine wpList_run rfl u10 (by simp [go_sem]) ?_
        simp only [zp0, zp1, zp2, zp3]
        refine wpList_run rfl (.slice (some ⟨d, 0, none⟩) 16 16) (by simp [go_sem]) ?_
        simp only [zp0, zp1, zp2, zp3]
        refine wpList_grow elem22A rfl (.tmp 39) (.tmp 40) rfl rfl HI2.out.2.2.1 ⟨d, 0, none⟩ 16 16 (yv G) (yv (fronts ch t D)) rfl (lie_of_row HG2.out) (fun _ _ => rfl) (fun _ _ => rfl) (fun j hj => by simp only [yv]; rw [hGG.out j hj]) (by omega) (by have := HI2.out.2.1.2.2; omega) ?_
        intro v3 w3 ho hgr
        have hlt3 := HI2.out.2.2.1.lt
        have H3 : RowAt c 2 (hvA T) w3 := RowAt.grown (by rw [hT.out]; exact HI2.out.1) hgr (fun h => by have := (hlt3 c h.symm).1; omega)
        have H4 : RowAt (c + 1) 2 (hvA 0#128) w3 := RowAt.grown HI2.out.2.1 hgr (fun h => by have := (hlt3 (c + 1) h.symm).1; omega)
        have H5 : Ext w w3 := gr_ext HI2.out.2.2.2 hgr (fun k h => by have := (hlt3 k h).1; omega)
        rw [show 16 * n + 16 = 16 * (n + 1) by omega] at ho
        have e0 : w3.cell? ⟨c, 0, none⟩ = some (.int .u64 ((lo T).toNat : Int)) := H3.1 0 (by omega)
        have e1 : w3.cell? ⟨c, 1, none⟩ = some (.int .u64 ((hi T).toNat : Int)) := H3.1 1 (by omega)
        replace H3 := hideit H3
        replace H4 := hideit H4
        replace H5 := hideit H5
        replace ho := hideit ho
        clear hgr hlt3 HI2 HG2 hGG
        simp only [zp0, zp1, zp2, zp3]
        go_upto_region 11 with (fail)
        refine wp_region_lit ?_
        refine wpList_load_mid rfl 77 (.tmp 4) rfl _ 0 rfl (row 2 (hvA T)) _ H3.out.range Tryz.underlying77 rfl (by rw [row_length]; exact info80) ?_
        simp only [zp0, zp1, zp2, zp3]
        refine wpList_call rfl (by simp [go_sem, hv_row]) ((double_any T _).mono ?_)
        rintro e w4 ⟨rfl, h4⟩
        refine ⟨_, rfl, ?_⟩
        simp only [zp0, zp1, zp2, zp3]
        clear e0 e1
        have H3' := hideit (H3.out.carry h4)
        have H4' := hideit (H4.out.carry h4)
        have H5' : Hid (Ext w w4) := hideit (Ext.trans H5.out h4)
        have ho' := hideit (ho.out.ext h4)
        clear H3 H4 H5 ho h4
        refine wpList_store_mid rfl 77 (.tmp 4) (.tmp 43) rfl _ 0 (row 2 (hvA (dX 135#128 T))).toArray rfl rfl (by rw [row_size]; exact H3'.out.there) (by rw [row_size]; exact info80) (hv_one _) ?_
        have HBu : But c w4 (w4.setCells c 0 (row 2 (hvA (dX 135#128 T)))) := But.sets _ 0 _ (But.refl _ _)
        have HI5 : EachAt c w ch t D (n + 1) v3 (w4.setCells c 0 (row 2 (hvA (dX 135#128 T)))) := ⟨by
          show RowAt c 2 (hvA (dX 135#128 (dK 135#128 n t))) _
          rw [← hT.out]; exact H3'.out.cells, RowAt.but H4'.out HBu (by omega), ho'.out.but HBu (fun h => by have := (ho'.out.lt c h).1; omega), Ext.but H5'.out HBu (by omega)⟩
        replace HI5 := hideit HI5
        clear H3' H4' H5' ho' HBu
        generalize w4.setCells c 0 (row 2 (hvA (dX 135#128 T))) = Z at *
        simp only [Act.put]
        go_wp2
        go_roundw
        case rel =>
          have h1 := HI5.out
          first | exact ⟨(n + 1 : Nat), by omega, by go_num, h1⟩ | ((repeat apply Exists.intro); exact ⟨⟨n + 1, by omega, by go_num, h1⟩, rfl⟩)
        case measure => simp [intOf]; omega
      · obtain rfl : n = nb := by omega
        have n1 : ¬ 16 * (n : Int) < (l : Int) - (16 + (sh : Int)) := by have := hM.out; omega
        go_upto_region 12 with (fail)
        obtain ⟨T, hT⟩ : ∃ T, T = dK 135#128 n t := ⟨_, rfl⟩
        have HH : RowAt c 2 (hvA T) wr := by rw [hT]; exact HI.out.1
        have e0 : ∀ k : Kept (Ext wr.drew), k.w.cell? ⟨c, 0, none⟩ = some (.int .u64 ((lo T).toNat : Int)) := fun k => (HH.drew.carry k.ok).1 0 (by omega)
        have e1 : ∀ k : Kept (Ext wr.drew), k.w.cell? ⟨c, 1, none⟩ = some (.int .u64 ((hi T).toNat : Int)) := fun k => (HH.drew.carry k.ok).1 1 (by omega)
        have hne := kept_ne wr.drew
        replace hT := hideit hT
        clear HH
        refine wp_region_late 3 (by kernel_rfl) (by kernel_rfl) (by decide) ?_
        simp only [List.take_succ_cons, List.take_zero, List.drop_succ_cons, List.drop_zero]
        refine wpStrong_run 3 rfl ?_
        simp only [List.take_succ_cons, List.take_zero, List.drop_succ_cons, List.drop_zero]
        repeat (go_big_quiet_step (fail))
        refine wpQuiet_nil ?_
        refine wpStrong_nil ?_
        intro X hX
        have hX' : Ext wr X := Ext.trans ((Below.refl _ _).drew) hX
        have HZ := hideit (HI.out.2.1.carry hX')
        have HO := hideit (HI.out.2.2.1.ext hX')
        have HE : Hid (Ext w X) := hideit (Ext.trans HI.out.2.2.2 hX')
        clear hX hX' e0 e1 hne HI
        refine wpList_store_mid rfl 77 (.tmp 7) (.tmp 45) rfl _ 0 (row 2 (hvA T)).toArray rfl rfl (by rw [row_size]; exact HZ.out.there) (by rw [row_size]; exact info80) (hv_one _) ?_
        have HBu : But (c + 1) X (X.setCells (c + 1) 0 (row 2 (hvA T))) := But.sets _ 0 _ (But.refl _ _)
        have HO2 := hideit (HO.out.but HBu (fun h => by have := (HO.out.lt (c + 1) h).1; omega))
        have HE2 := hideit (Ext.but HE.out HBu (by omega))
        have HZ2 := hideit (HZ.out.cells (g' := hvA T))
        clear HO HE HZ HBu
        generalize X.setCells (c + 1) 0 (row 2 (hvA T)) = Z at *
        simp only [Act.put]
        go_wp2
        refine bodyPost_ret (ret_tmp_row Tryz.results35 rfl HZ2.out Tryz.underlying77 rfl info80) rfl ⟨u10, ?_, ?_, HE2.out⟩
        · rw [← hT.out]; rfl
        · exact ⟨HO2.out.1, HO2.out.2.imp id fun ⟨g, cp, cur, h1, h2, h3⟩ => ⟨g, cp, cur, h1, by omega, h3⟩⟩
end Go.Proofs.YtfpfgbhdehbggaaGreatDoor
namespace Go.Proofs.YtfpfgbhdehbggaaGreatDoor
set_option maxRecDepth 20000
open Go.RowKit Go.BigFrame
def lendF (ch : BitVec 128 → (Nat → BitVec 8) → Nat → BitVec 8) (t1 : BitVec 128) (D : Nat → BitVec 8) (m : Nat) : Nat → BitVec 8 := ch t1 (fun i => D (m + i))
def fillFA (L D : Nat → BitVec 8) (m s i : Nat) : BitVec 8 := if i < s then D (m + 16 + i) else L i
def stealF (ch : BitVec 128 → (Nat → BitVec 8) → Nat → BitVec 8) (t1 t2 : BitVec 128) (F D : Nat → BitVec 8) (m s j : Nat) : BitVec 8 :=
  if j < m then F j else if j < m + 16 then ch t2 (fillFA (lendF ch t1 D m) D m s) (j - m) else lendF ch t1 D m (j - (m + 16))
set_option maxRecDepth 20000 in
set_option maxHeartbeats 2000000 in
theorem steal_none (m cap : Nat) (a : Addr) (t1 t2 : BitVec 128) (v : Value) (vc : Nat) (va : Option Addr) (hvA : v = .slice va m vc) (hcap : m ≤ cap) (hm : m ≤ 65536) (cv : Value) (w : World) :
    Calls Tryz.prog 37 #[v, .slice (some a) m cap, .agg #[.int .u64 ((lo t1).toNat : Int), .int .u64 ((hi t1).toNat : Int)], .agg #[.int .u64 ((lo t2).toNat : Int), .int .u64 ((hi t2).toNat : Int)], cv] w fun e w' => e = .returned v ∧ Ext w w' := by
  subst hvA
  have m0 : (0 : Int) ≤ (m : Int) := by omega
  have m1 : (m : Int) ≤ (cap : Int) := by omega
  have HE : Hid (Ext w ((w.alloc (.cells #[.int .u64 ((lo t1).toNat : Int), .int .u64 ((hi t1).toNat : Int)] 77)).alloc (.cells #[.int .u64 ((lo t2).toNat : Int), .int .u64 ((hi t2).toNat : Int)] 77))) := ((Below.refl _ _).alloc (Nat.le_refl _) _).alloc (by simp) _
  by_cases hcm : cap = m
  · subst hcm
    go_enter Tryz.func37, Tryz.ntmps37
    go_wp2
    go_ret
    exact ⟨rfl, HE.out⟩
  · go_enter Tryz.func37, Tryz.ntmps37
    go_wp2
    go_ret
    exact ⟨rfl, HE.out⟩
theorem cutS {ρ : Operand → Value} {o : Oper} (X : World) (d s : Nat) (hs : s < 16) (ho : o.op = .slice 52 (.tmp 13) none (some (.tmp 43)) none := by rfl) (h1 : ρ (.tmp 13) = .pointer (some ⟨d, 0, none⟩) := by rfl) (h2 : ρ (.tmp 43) = .int .i64 (s : Int) := by rfl) : (execOp ρ o).run Tryz.prog X = .ok (.value (.slice (some ⟨d, 0, none⟩) s 16)) X := by
  have i1 : (s : Int) ≤ 16 := by omega
  have i2 : (0 : Int) ≤ (s : Int) := by omega
  unfold execOp
  simp [ho, h1, h2, go_sem, i1, i2]
set_option maxRecDepth 20000 in
set_option maxHeartbeats 4000000 in
theorem steal_any (base m s cap : Nat) (a : Addr) (D F : Nat → BitVec 8) (t1 t2 : BitVec 128) (b : Nat) (ch : BitVec 128 → (Nat → BitVec 8) → Nat → BitVec 8) (v : Value) (w : World) (hs0 : 0 < s) (hs1 : s < 16) (hm : m + 16 + s ≤ 65536) (hcap : m + 16 + s ≤ cap) (hD : LieAt a (m + 16 + s) (yv D) w)
    (hO : OwnB base 5 v m (yv F) w) (hbase : base ≤ w.heap.size)
    (hch : ∀ X, Ext w X → ∀ t f, Calls Tryz.prog 59 #[.agg #[.int .u64 ((lo t).toNat : Int), .int .u64 ((hi t).toNat : Int)], .agg (row 16 (yv f)).toArray, .pointer (some ⟨b, 0, none⟩)] X fun e w' => e = .returned (.agg (row 16 (yv (ch t f))).toArray) ∧ Below X.heap.size X w') :
    Calls Tryz.prog 37 #[v, .slice (some a) (m + 16 + s) cap, .agg #[.int .u64 ((lo t1).toNat : Int), .int .u64 ((hi t1).toNat : Int)], .agg #[.int .u64 ((lo t2).toNat : Int), .int .u64 ((hi t2).toNat : Int)], betwV b] w fun e w' => ∃ v', e = .returned v' ∧ OwnB base 5 v' (m + 16 + s) (yv (stealF ch t1 t2 F D m s)) w' ∧ Below base w w' := by
  have hz := store_Y16
  obtain ⟨va, vc, hvA⟩ : ∃ va vc, v = .slice va m vc := by
    rcases hO.2 with ⟨h, h0⟩ | ⟨g, cap, cur, h, _⟩
    · exact ⟨none, 0, by rw [h, h0]⟩
    · exact ⟨_, cap, h⟩
  subst hvA
  replace hch := hideit hch
  replace hD := hideit hD
  replace hO := hideit hO
  unfold betwV
  obtain ⟨c, hc⟩ : ∃ c, c = w.heap.size := ⟨_, rfl⟩
  obtain ⟨W2, hW2⟩ : ∃ W2, W2 = (w.alloc (.cells #[.int .u64 ((lo t1).toNat : Int), .int .u64 ((hi t1).toNat : Int)] 77)).alloc (.cells #[.int .u64 ((lo t2).toNat : Int), .int .u64 ((hi t2).toNat : Int)] 77) := ⟨_, rfl⟩
  have HE2 : Ext w W2 := by rw [hW2]; exact ((Below.refl _ _).alloc (Nat.le_refl _) _).alloc (by simp) _
  have hs2 : W2.heap.size = c + 1 + 1 := by rw [hW2, hc]; simp
  have HH2 : RowAt c 2 (hvA t1) W2 := by rw [hW2, hc]; exact (RowAt.new w 2 (hvA t1) 77).alloc _
  have HZ2 : RowAt (c + 1) 2 (hvA t2) W2 := by
    have h : RowAt ((w.alloc (.cells #[.int .u64 ((lo t1).toNat : Int), .int .u64 ((hi t1).toNat : Int)] 77)).heap.size) 2 (hvA t2) ((w.alloc (.cells #[.int .u64 ((lo t1).toNat : Int), .int .u64 ((hi t1).toNat : Int)] 77)).alloc (.cells #[.int .u64 ((lo t2).toNat : Int), .int .u64 ((hi t2).toNat : Int)] 77)) := RowAt.new _ 2 (hvA t2) 77
    rw [hW2, hc]; simpa using h
  replace HE2 := hideit HE2
  replace HH2 := hideit HH2
  replace HZ2 := hideit HZ2
  replace hW2 := hideit hW2
  have i0 : (0 : Int) ≤ (m : Int) := by omega
  have i1 : (m : Int) ≤ (m : Int) + 16 + (s : Int) := by omega
  have i2 : (m : Int) ≤ (cap : Int) := by omega
  have i3 : (m : Int) + 16 + (s : Int) ≤ (cap : Int) := by omega
  have i4 : ¬ cap = m := by omega
  have i5 : ¬ cap - m = 16 := by omega
  have i6 : m + 16 + s - m = 16 + s := by omega
  have i7 : (s : Int) < 16 := by omega
  have i8 : (0 : Int) < (s : Int) := by omega
  have i9 : 16 ≤ cap - m := by omega
  go_enter Tryz.func37, Tryz.ntmps37
  go_upto_region 5 with (fail)
  rw [← hW2.out, ← hc]
  have hcw : w.heap.size ≤ c := by omega
  clear hc hW2
  obtain ⟨sa, hsa⟩ : ∃ sa : Addr, sa = ⟨(a.add m).block, (a.add m).off + 16, none⟩ := ⟨_, rfl⟩
  rw [← hsa]
  have hsa2 : sa = (a.add m).add 16 := hsa
  have HSA : Hid (∀ X, Ext w X → LieAt sa s (yv fun i => D (m + 16 + i)) X) := fun X hX => by
    have h1 := hD.out.carry hX
    refine ⟨fun j hj => ?_, by rw [hsa2, add_block, add_block]; exact h1.2⟩
    rw [hsa2, add_add', add_add', ← Nat.add_assoc, h1.1 (m + 16 + j) (by omega)]
    rfl
  have HLA : Hid (∀ X, Ext w X → LieAt (a.add m) (16 + s) (yv fun i => D (m + i)) X) := fun X hX => by
    have h1 := hD.out.carry hX
    refine ⟨fun j hj => ?_, by rw [add_block]; exact h1.2⟩
    rw [add_add', h1.1 (m + j) (by omega)]
    rfl
  clear hsa hsa2 i0 i1 i2 i3 i4 i5 i6 i9
  obtain ⟨f, hf⟩ : ∃ f : Nat → BitVec 8, f = fun i => D (m + i) := ⟨_, rfl⟩
  rw [← hf] at HLA
  obtain ⟨L, hL⟩ : ∃ L, L = ch t1 f := ⟨_, rfl⟩
  have hLL : Hid (L = lendF ch t1 D m) := by unfold Hid lendF; rw [hL, hf]
  have hcall1 : Hid (∀ X, Ext w X → Calls Tryz.prog 59 #[.agg #[.int .u64 ((lo t1).toNat : Int), .int .u64 ((hi t1).toNat : Int)], .agg (row 16 (yv f)).toArray, .pointer (some ⟨b, 0, none⟩)] X fun e w' => e = .returned (.agg (row 16 (yv L)).toArray) ∧ Below X.heap.size X w') := fun X hX => by rw [hL]; exact hch.out X hX t1 f
  clear hL hf
  have e0 : ∀ k : Kept (Ext W2.drew), k.w.cell? ⟨c, 0, none⟩ = some (.int .u64 ((lo t1).toNat : Int)) := fun k => (HH2.out.drew.carry k.ok).1 0 (by omega)
  have e1 : ∀ k : Kept (Ext W2.drew), k.w.cell? ⟨c, 1, none⟩ = some (.int .u64 ((hi t1).toNat : Int)) := fun k => (HH2.out.drew.carry k.ok).1 1 (by omega)
  have hne := kept_ne W2.drew
  refine wp_region_made 5 16 (yv fun _ => 0#8) _ (by kernel_rfl) (by kernel_rfl) rfl (makes23 rfl rfl) ?_
  simp only [List.take_succ_cons, List.take_zero, List.drop_succ_cons, List.drop_zero]
  refine wpStrong_run 3 rfl ?_
  simp only [List.take_succ_cons, List.take_zero, List.drop_succ_cons, List.drop_zero]
  repeat (go_big_quiet_step (fail))
  refine wpQuiet_nil ?_
  refine wpStrong_call rfl (fun X => by simp [go_sem]) (fun X hX => blockOf_any (a.add m) (16 + s) (cap - m) f X (by omega) (HLA.out X (Ext.trans (Ext.trans HE2.out ((Below.refl _ _).drew)) hX))) ?_
  simp only [zp0, zp1, zp2, zp3]
  refine wpStrong_call rfl (fun X => by simp [go_sem]) (fun X hX => hcall1.out X (Ext.trans (Ext.trans HE2.out ((Below.refl _ _).drew)) hX)) ?_
  simp only [zp0, zp1, zp2, zp3]
  refine wpStrong_nil ?_
  intro d X hd hX hR
  have hX' : Ext W2 X := Ext.trans ((Below.refl _ _).drew) hX
  have HZ3 := HZ2.out.carry hX'
  have HE3 : Ext w X := Ext.trans HE2.out hX'
  replace hR := hideit hR
  clear hne e0 e1 hX hX' HH2 HZ2 HE2 HLA hcall1
  refine wpList_store_mid rfl 52 (.tmp 13) (.tmp 29) rfl _ 0 (row 16 (yv L)).toArray rfl rfl (by rw [row_size]; exact hR.out.there) (by rw [row_size]; exact info32) (row_one fun _ _ => rfl) ?_
  have HBu : But d X (X.setCells d 0 (row 16 (yv L))) := But.sets _ 0 _ (But.refl _ _)
  have HZ4 := hideit (RowAt.but HZ3 HBu (by omega))
  have HE4 : Hid (Ext w (X.setCells d 0 (row 16 (yv L)))) := hideit (Ext.but HE3 HBu (by omega))
  have HL4 := hideit (hR.out.cells (g' := yv L))
  clear HZ3 HE3 hR HBu
  generalize X.setCells d 0 (row 16 (yv L)) = Y at *
  simp only [Act.put]
  obtain ⟨g, hg⟩ : ∃ g, g = Y.heap.size := ⟨_, rfl⟩
  have HEx : Ext Y (Y.alloc (.cells (row 16 (yv fun _ => 0#8)).toArray 52)) := (Below.refl _ _).alloc (Nat.le_refl _) _
  have HN5 : Hid (RowAt g 16 (yv fun _ => 0#8) (Y.alloc (.cells (row 16 (yv fun _ => 0#8)).toArray 52))) := hideit (by rw [hg]; exact RowAt.new Y 16 (yv fun _ => 0#8) 52)
  have hdg : d < g := by have := HL4.out.2.2; omega
  go_upto_region 7 with (first | (refine wpList_load_mid rfl 52 (.tmp 13) rfl _ 0 rfl (row 16 (yv L)) _ HL4.out.range Tryz.underlying52 rfl (by rw [row_length]; exact info32) ?_) | (rw [← hg]; refine wpList_store_mid rfl 52 (.tmp 14) (.tmp 30) rfl _ 0 (row 16 (yv L)).toArray rfl rfl (by rw [row_size]; exact HN5.out.there) (by rw [row_size]; exact info32) (row_one fun _ _ => rfl) ?_))
  clear hg
  have HBu : But g (Y.alloc (.cells (row 16 (yv fun _ => 0#8)).toArray 52)) ((Y.alloc (.cells (row 16 (yv fun _ => 0#8)).toArray 52)).setCells g 0 (row 16 (yv L))) := But.sets _ 0 _ (But.refl _ _)
  have HZ6 := hideit (RowAt.but (HZ4.out.carry HEx) HBu (by omega))
  have HL6 := hideit (RowAt.but (HL4.out.carry HEx) HBu (by omega))
  have HE6 : Hid (Ext w _) := hideit (Ext.but (Ext.trans HE4.out HEx) HBu (by omega))
  have HF6 := hideit (HN5.out.cells (g' := yv L))
  clear HN5 HBu HEx HZ4 HL4 HE4
  generalize (Y.alloc (.cells (row 16 (yv fun _ => 0#8)).toArray 52)).setCells g 0 (row 16 (yv L)) = Z at *
  simp only [Act.put]
  refine wp_region_lit ?_
  refine wpList_run rfl (.slice (some ⟨g, 0, none⟩) 16 16) (by simp [go_sem]) ?_
  simp only [zp0, zp1, zp2, zp3]
  refine wpList_run rfl (.slice (some sa) s (cap - m - 16)) (by simp [go_sem]) ?_
  simp only [zp0, zp1, zp2, zp3]
  refine wpList_copy_row rfl (.tmp 31) (.tmp 32) 25 25 rfl 5 Tryz.underlying25 info5A g 16 (yv L) HF6.out 0 16 16 sa s (cap - m - 16) rfl rfl s (yv fun i => D (m + 16 + i)) (Nat.min_eq_left (by omega)).symm (fun j hj => (HSA.out Z HE6.out).1 j hj) (by omega) (fun _ _ => rfl) ?_
  obtain ⟨P, hP⟩ : ∃ P, P = fillFA L D m s := ⟨_, rfl⟩
  have HF7 := hideit (RowAt.congr (HF6.out.part 0 s (yv fun i => D (m + 16 + i)) (by omega)) (g' := yv P) fun j hj => by
    rw [hP]
    simp only [yv, fillFA]
    by_cases h : j < s
    · rw [if_pos (by omega), if_pos h, Nat.sub_zero]
    · rw [if_neg (by omega), if_neg h])
  have HBu : But g Z (Z.setCells g 0 (row s (yv fun i => D (m + 16 + i)))) := But.sets _ 0 _ (But.refl _ _)
  have HZ7 := hideit (RowAt.but HZ6.out HBu (by omega))
  have HL7 := hideit (RowAt.but HL6.out HBu (by omega))
  have HE7 : Hid (Ext w _) := hideit (Ext.but HE6.out HBu (by omega))
  clear HF6 HZ6 HL6 HE6 HBu HSA
  generalize Z.setCells g 0 (row s (yv fun i => D (m + 16 + i))) = V at *
  simp only [zp0, zp1, zp2, zp3]
  obtain ⟨G, hG⟩ : ∃ G, G = ch t2 P := ⟨_, rfl⟩
  have hcall2 : Hid (Calls Tryz.prog 59 #[.agg #[.int .u64 ((lo t2).toNat : Int), .int .u64 ((hi t2).toNat : Int)], .agg (row 16 (yv P)).toArray, .pointer (some ⟨b, 0, none⟩)] V fun e w' => e = .returned (.agg (row 16 (yv G)).toArray) ∧ Below V.heap.size V w') := by rw [hG]; exact hch.out V HE7.out t2 P
  have hGG : Hid (G = ch t2 (fillFA (lendF ch t1 D m) D m s)) := by unfold Hid; rw [hG, hP, hLL.out]
  clear hG hP hch
  go_upto_region 8 with (fail)
  refine wp_region_lit ?_
  refine wpList_run rfl (.func (.func 59) #[] #[.pointer (some ⟨b, 0, none⟩)]) (by simp [go_sem]) ?_
  simp only [zp0, zp1, zp2, zp3]
  refine wpList_load_mid rfl 77 (.tmp 8) rfl _ 0 rfl (row 2 (hvA t2)) _ HZ7.out.range Tryz.underlying77 rfl (by rw [row_length]; exact info80) ?_
  simp only [zp0, zp1, zp2, zp3]
  refine wpList_load_mid rfl 52 (.tmp 14) rfl _ 0 rfl (row 16 (yv P)) _ HF7.out.range Tryz.underlying52 rfl (by rw [row_length]; exact info32) ?_
  simp only [zp0, zp1, zp2, zp3]
  refine wpList_call rfl (by simp [go_sem, hv_row]) (hcall2.out.mono ?_)
  rintro e w8 ⟨rfl, h8⟩
  refine ⟨_, rfl, ?_⟩
  simp only [zp0, zp1, zp2, zp3]
  have HF8 := hideit (HF7.out.carry h8)
  have HL8 := hideit (HL7.out.carry h8)
  have HE8 : Hid (Ext w w8) := hideit (Ext.trans HE7.out h8)
  clear HF7 HL7 HE7 HZ7 h8 hcall2
  refine wpList_store_mid rfl 52 (.tmp 14) (.tmp 37) rfl _ 0 (row 16 (yv G)).toArray rfl rfl (by rw [row_size]; exact HF8.out.there) (by rw [row_size]; exact info32) (row_one fun _ _ => rfl) ?_
  have HBu : But g w8 (w8.setCells g 0 (row 16 (yv G))) := But.sets _ 0 _ (But.refl _ _)
  have HL9 := hideit (RowAt.but HL8.out HBu (by omega))
  have HG9 := hideit (HF8.out.cells (g' := yv G))
  have HE9 : Hid (Ext w _) := hideit (Ext.but HE8.out HBu (by omega))
  clear HF8 HL8 HE8 HBu
  generalize w8.setCells g 0 (row 16 (yv G)) = U at *
  simp only [Act.put]
  have HO9 := hideit (hO.out.ext HE9.out)
  have hvb : Hid (∀ k, (Value.slice va m vc).ownBlock = some k → base ≤ k ∧ k < w.heap.size) := hO.out.lt
  clear hO
  generalize hvv : Value.slice va m vc = v at *
  clear hvv
  go_upto_region 9 with (fail)
  refine wp_region_lit ?_
  refine wpList_run rfl v (by simp [go_sem]) ?_
  simp only [zp0, zp1, zp2, zp3]
  refine wpList_run rfl (.slice (some ⟨g, 0, none⟩) 16 16) (by simp [go_sem]) ?_
  simp only [zp0, zp1, zp2, zp3]
  refine wpList_grow elem22A rfl (.tmp 38) (.tmp 39) rfl rfl HO9.out ⟨g, 0, none⟩ 16 16 (yv G) (yv fun j => if j < m then F j else G (j - m)) rfl (lie_of_row HG9.out) (fun _ _ => rfl) (fun j hj => by simp only [yv]; rw [if_pos hj]) (fun j hj => by simp only [yv]; rw [if_neg (by omega), Nat.add_sub_cancel_left]) (by omega) (by have := Below.size HE9.out; omega) ?_
  intro v2 w2 ho2 hg2
  have hb2 : Below base w w2 := Below.trans (Below.mono HE9.out hbase) (below_grown (by have := Below.size HE9.out; omega) hg2 (fun k h => (hvb.out k h).1))
  have HL2 := hideit (RowAt.grown HL9.out hg2 (fun h => by have := (hvb.out d h.symm).2; omega))
  replace ho2 := hideit ho2
  replace hb2 := hideit hb2
  have hsz2 : base ≤ w2.heap.size := by have := Below.size HE9.out; have := hg2.size; omega
  clear hg2 HL9 HG9 HE9 HO9 hvb
  simp only [zp0, zp1, zp2, zp3]
  go_upto_region 10 with (fail)
  have i10 : (s : Int) ≤ 16 := by omega
  have i11 : (0 : Int) ≤ (s : Int) := by omega
  refine wp_region_lit ?_
  refine wpList_run rfl v2 (by simp [go_sem]) ?_
  simp only [zp0, zp1, zp2, zp3]
  refine wpList_run rfl (.slice (some sa) s (cap - m - 16)) (by simp [go_sem]) ?_
  simp only [zp0, zp1, zp2, zp3]
  refine wpList_run rfl (.int .i64 (s : Int)) (by simp [go_sem]) ?_
  simp only [zp0, zp1, zp2, zp3]
  refine wpList_run rfl (.slice (some ⟨d, 0, none⟩) s 16) (cutS _ d s hs1) ?_
  simp only [zp0, zp1, zp2, zp3]
  refine wpList_grow elem22A rfl (.tmp 41) (.tmp 44) rfl rfl ho2.out ⟨d, 0, none⟩ s 16 (yv L) (yv (stealF ch t1 t2 F D m s)) rfl ⟨fun j hj => (lie_of_row HL2.out).1 j (by omega), HL2.out.2.2⟩ (fun _ _ => rfl) (fun j hj => by
    simp only [yv, stealF]
    by_cases h : j < m
    · rw [if_pos h, if_pos h]
    · rw [if_neg h, if_neg h, if_pos (by omega), hGG.out]) (fun j hj => by simp only [yv, stealF]; rw [if_neg (by omega), if_neg (by omega), Nat.add_sub_cancel_left, hLL.out]) (by omega) hsz2 ?_
  intro v3 w3 ho3 hg3
  have hb3 : Below base w w3 := Below.trans hb2.out (below_grown hsz2 hg3 (fun k h => (ho2.out.lt k h).1))
  replace ho3 := hideit ho3
  replace hb3 := hideit hb3
  clear hg3 ho2 hb2 HL2
  simp only [zp0, zp1, zp2, zp3]
  go_wp2
  go_ret
  exact ⟨v3, rfl, ho3.out, hb3.out⟩
end Go.Proofs.YtfpfgbhdehbggaaGreatDoor
