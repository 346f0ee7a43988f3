/-
  Units that may not be; what must come of every program. How rows of bytes that came in read; when two rows of sixteen bytes are the same.
-/
import Derived.Test.YtkoodgfadedeoaaQ18
import Derived.Test.YtkoodgfadedeoaaQ20
import Derived.Test.YtkoodgfadedeoaaQ19
import Derived.ProofKit
import Derived.Stop.BytesEq
import Derived.OpenShut
namespace Go.Proofs.Ytkoodgfadedeoaa
open Go.RowKit Go.BigFrame
theorem xenc_bad (q : Addr) (u : Value) (a : Option Addr) (l cap : Nat) (h : l < 16 ∨ 65536 < l) (w : World) :
    Calls Try.prog 21 #[.pointer (some q), u, .slice a l cap] w fun e w' => e = .returned (.tuple #[.slice none 0 0, .int .i64 30]) ∧ w' = w := by
  go_enter Try.func21, Try.ntmps21
  go_wp2_with (go_at_call 39; refine (refusal_bad q a l cap h _).mono ?_; rintro e w0 ⟨rfl, rfl⟩)
  refine bodyPost_ret (results_tmp2 Try.results21 _ _ _) rfl ?_
  exact ⟨rfl, rfl⟩
theorem xenc_nil (u v : Value) (w : World) :
    Calls Try.prog 21 #[.pointer none, u, v] w fun e w' => e = .returned (.tuple #[.slice none 0 0, .int .i64 6]) ∧ w' = w := by
  go_enter Try.func21, Try.ntmps21
  go_wp2_with (go_at_call 39; refine (refusal_nil v _).mono ?_; rintro e w0 ⟨rfl, rfl⟩)
  refine bodyPost_ret (results_tmp2 Try.results21 _ _ _) rfl ?_
  exact ⟨rfl, rfl⟩
theorem xdec_bad (q : Addr) (u : Value) (a : Option Addr) (l cap : Nat) (h : l < 16 ∨ 65536 < l) (w : World) :
    Calls Try.prog 23 #[.pointer (some q), u, .slice a l cap] w fun e w' => e = .returned (.tuple #[.slice none 0 0, .int .i64 30]) ∧ w' = w := by
  go_enter Try.func23, Try.ntmps23
  go_wp2_with (go_at_call 39; refine (refusal_bad q a l cap h _).mono ?_; rintro e w0 ⟨rfl, rfl⟩)
  refine bodyPost_ret (results_tmp2 Try.results23 _ _ _) rfl ?_
  exact ⟨rfl, rfl⟩
theorem xdec_nil (u v : Value) (w : World) :
    Calls Try.prog 23 #[.pointer none, u, v] w fun e w' => e = .returned (.tuple #[.slice none 0 0, .int .i64 6]) ∧ w' = w := by
  go_enter Try.func23, Try.ntmps23
  go_wp2_with (go_at_call 39; refine (refusal_nil v _).mono ?_; rintro e w0 ⟨rfl, rfl⟩)
  refine bodyPost_ret (results_tmp2 Try.results23 _ _ _) rfl ?_
  exact ⟨rfl, rfl⟩
theorem lies_own {base : Nat} {v : Value} {n : Nat} {g : Nat → Value} {w : World} (h : OwnB base 5 v n g w) (hn : 0 < n) : ∃ b cap, v = .slice (some ⟨b, 0, none⟩) n cap ∧ n ≤ cap ∧ LieAt ⟨b, 0, none⟩ n g w ∧ RowAt b n g w ∧ base ≤ b := by
  obtain ⟨b, cap, h1, h2, h3, h4, h5⟩ := h.lies hn
  exact ⟨b, cap, h1, h3, lie_of_row h5, h5, h2⟩
set_option maxRecDepth 20000 in
set_option maxHeartbeats 4000000 in
theorem xlives_core (S : Nat → BitVec 8) (z0 : BitVec 128) (ch : BitVec 128 → (Nat → BitVec 8) → Nat → BitVec 8) (w : World)
    (hnew : ∀ a X, LieAt a 32 (yv fun _ => 0#8) X → Calls Try.prog 18 #[.slice (some a) 32 32] X fun e w' => ∃ q c1 c2, e = .returned (.tuple #[.pointer (some ⟨q, 0, none⟩), .int .i64 0]) ∧ PairAt q c1 c2 10 S S w' ∧ Below X.heap.size X w' ∧ X.heap.size ≤ q ∧ X.heap.size ≤ c1 ∧ X.heap.size ≤ c2)
    (henc : ∀ q c1 c2 a X, PairAt q c1 c2 10 S S X → LieAt a 32 (yv fun _ => 0#8) X → Calls Try.prog 21 #[.pointer (some ⟨q, 0, none⟩), .int .u64 0, .slice (some a) 32 32] X fun e w' => ∃ v, e = .returned (.tuple #[v, .int .i64 0]) ∧ OwnB X.heap.size 5 v 32 (yv (fronts ch z0 fun _ => 0#8)) w' ∧ Below X.heap.size X w')
    (h0 : (fronts ch z0 (fun _ => 0#8) 0).toNat = 145) (h15 : (fronts ch z0 (fun _ => 0#8) 15).toNat = 146) (h16 : (fronts ch z0 (fun _ => 0#8) 16).toNat = 205) (h31 : (fronts ch z0 (fun _ => 0#8) 31).toNat = 46) :
    Calls Try.prog 20 #[] w fun e w' => e = .returned (.bool true) ∧ Below w.heap.size w w' := by
  generalize fronts ch z0 (fun _ => 0#8) = F at *
  replace hnew := hideit hnew
  replace henc := hideit henc
  replace h0 := hideit h0
  replace h15 := hideit h15
  replace h16 := hideit h16
  replace h31 := hideit h31
  go_enter Try.func20, Try.ntmps20
  go_upto_region 1 with (fail)
  refine wp_region_lit ?_
  refine wpList_made w Try.underlying22 info5p rfl (.const (.int .i64 32)) (.const (.int .i64 32)) rfl 32 rfl rfl (by omega) ?_
  intro w1 hO1 hX1
  obtain ⟨b1, cp1, hv1, _, hL1, _, _⟩ := lies_own hO1 (by omega)
  cases hv1
  simp only [Act.put, List.setIfInBounds_toArray, List.set_cons_zero, List.set_cons_succ]
  refine wpList_call rfl (by simp [go_sem]) ((hnew.out _ w1 hL1).mono ?_)
  rintro e w2 ⟨q, c1, c2, rfl, hP, hB2, _⟩
  refine ⟨_, rfl, ?_⟩
  have HE2 : Hid (Ext w w2) := hideit (Ext.trans hX1 hB2)
  have HP2 := hideit hP
  clear hP hB2 hL1 hO1 hX1 hnew
  simp only [Act.put, List.setIfInBounds_toArray, List.set_cons_zero, List.set_cons_succ]
  go_upto_region 4 with (fail)
  refine wp_region_lit ?_
  refine wpList_run rfl (.pointer (some ⟨q, 0, none⟩)) (by simp [go_sem]) ?_
  simp only [Act.put, List.setIfInBounds_toArray, List.set_cons_zero, List.set_cons_succ]
  refine wpList_made w2 Try.underlying22 info5p rfl (.const (.int .i64 32)) (.const (.int .i64 32)) rfl 32 rfl rfl (by omega) ?_
  intro w3 hO3 hX3
  obtain ⟨b3, cp3, hv3, _, hL3, _, _⟩ := lies_own hO3 (by omega)
  cases hv3
  simp only [Act.put, List.setIfInBounds_toArray, List.set_cons_zero, List.set_cons_succ]
  refine wpList_call rfl (by simp [go_sem]) ((henc.out q c1 c2 _ w3 (HP2.out.ext hX3) hL3).mono ?_)
  rintro e w4 ⟨v, rfl, hO, hB4⟩
  refine ⟨_, rfl, ?_⟩
  have HE4 : Hid (Ext w w4) := hideit (Ext.trans (Ext.trans HE2.out hX3) hB4)
  have HO4 := hideit hO
  clear hO hB4 hL3 hO3 hX3 henc HP2 HE2
  simp only [Act.put, List.setIfInBounds_toArray, List.set_cons_zero, List.set_cons_succ]
  go_upto_region 5 with (fail)
  refine wp_region_lit ?_
  refine wpList_run rfl (.pointer (some ⟨q, 0, none⟩)) (by simp [go_sem]) ?_
  simp only [Act.put, List.setIfInBounds_toArray, List.set_cons_zero, List.set_cons_succ]
  refine wpList_made w4 Try.underlying22 info5p rfl (.const (.int .i64 15)) (.const (.int .i64 15)) rfl 15 rfl rfl (by omega) ?_
  intro w5 hO5 hX5
  simp only [Act.put, List.setIfInBounds_toArray, List.set_cons_zero, List.set_cons_succ]
  refine wpList_call rfl (by simp [go_sem]) ((xenc_bad ⟨q, 0, none⟩ (.int .u64 0) (some ⟨w4.heap.size, 0, none⟩) 15 15 (by omega) w5).mono ?_)
  rintro e w6 ⟨rfl, rfl⟩
  refine ⟨_, rfl, ?_⟩
  have HE6 : Hid (Ext w w6) := hideit (Ext.trans HE4.out hX5)
  obtain ⟨b6, cp6, hv6, hc6, _, hR6, _⟩ := lies_own (HO4.out.ext hX5) (by omega)
  subst hv6
  have e0 : w6.cell? ⟨b6, 0, none⟩ = some (.int .u8 145) := by rw [hR6.1 0 (by omega)]; simp only [yv]; rw [h0.out]; rfl
  have e15 : w6.cell? ⟨b6, 15, none⟩ = some (.int .u8 146) := by rw [hR6.1 15 (by omega)]; simp only [yv]; rw [h15.out]; rfl
  have e16 : w6.cell? ⟨b6, 16, none⟩ = some (.int .u8 205) := by rw [hR6.1 16 (by omega)]; simp only [yv]; rw [h16.out]; rfl
  have e31 : w6.cell? ⟨b6, 31, none⟩ = some (.int .u8 46) := by rw [hR6.1 31 (by omega)]; simp only [yv]; rw [h31.out]; rfl
  clear hR6 HO4 HE4 hO5 hX5
  simp only [Act.put, List.setIfInBounds_toArray, List.set_cons_zero, List.set_cons_succ]
  go_wp2
  go_ret
  exact ⟨rfl, HE6.out⟩
theorem z32 : (fun j : Nat => (fun _ : Nat => (0#8 : BitVec 8)) (16 + j)) = fun _ => 0#8 := rfl
theorem xlives_any (w : World) : Calls Try.prog 20 #[] w fun e w' => e = .returned (.bool true) ∧ Below w.heap.size w w' := by
  have hs := sched_zero (fun _ => 0#8) (fun _ _ => rfl)
  refine xlives_core (schedK 4 zs) tz (chF (encF (schedK 4 zs) bxT twT 10)) w (fun a X h => ?_) (fun q c1 c2 a X hP h => ?_) ?_ ?_ ?_ ?_
  · have h1 := xnew4_any a 32 (fun _ => 0#8) X h (Nat.le_refl _)
    rw [hs] at h1
    exact h1
  · have h1 := xenc_any q c1 c2 10 32 32 2 (schedK 4 zs) (schedK 4 zs) (by omega) (by omega) 0#64 a (fun _ => 0#8) X hP (by omega) (by omega) (by omega) h (.inl ⟨by omega, by omega⟩)
    rw [tw0_zero] at h1
    exact h1
  · show (chF (encF (schedK 4 zs) bxT twT 10) tz (fun _ => 0#8) 0).toNat = 145
    rw [ch_z1 _ (fun _ _ => rfl) 0 (by omega)]; decide +kernel
  · show (chF (encF (schedK 4 zs) bxT twT 10) tz (fun _ => 0#8) 15).toNat = 146
    rw [ch_z1 _ (fun _ _ => rfl) 15 (by omega)]; decide +kernel
  · show (chF (encF (schedK 4 zs) bxT twT 10) (dX 135#128 tz) (fun _ => 0#8) 0).toNat = 205
    rw [ch_z2 _ (fun _ _ => rfl) 0 (by omega)]; decide +kernel
  · show (chF (encF (schedK 4 zs) bxT twT 10) (dX 135#128 tz) (fun _ => 0#8) 15).toNat = 46
    rw [ch_z2 _ (fun _ _ => rfl) 15 (by omega)]; decide +kernel
end Go.Proofs.Ytkoodgfadedeoaa
namespace Go.Proofs.Ytkoodgfadedeoaa
open Go.ChangeShapes Go.WideShapes Go.ChangeAt Go.RowKit
theorem okWide_arr {P : Program} {w : World} {r : Reach} {base : Nat} {t : TypeId} {v : Value} {n : Nat} {e : TypeId} (ht : P.underlying t = some (.array n e)) (h : Value.okWide P w r base t v) : ∃ cs, v = .agg cs ∧ cs.size = P.cellsOf t := by
  unfold Value.okWide at h
  rw [ht] at h
  cases v <;> simp_all
set_option maxRecDepth 100000 in
theorem open_arr {H : Type} {enc : TypeId × Value → H} {W : World} {r : Reach} {b0 base : Nat} {spare : Nat → Bool} {held : Bool} {v : Value} {d : DataW H} {p : List MemPlace} {t : TypeId} {N : Nat} (hu : Try.prog.underlying t = some (.array N 5)) (hc : Try.prog.cellsOf t = N)
    (hv : Value.okWide Try.prog W r b0 t v) (h : DataW.Trod enc Try.prog W base spare held t v d p) : ∃ f : Nat → BitVec 8, v = .agg (row N (yv f)).toArray := by
  obtain ⟨cs, rfl, hsz⟩ := okWide_arr hu hv
  have hc5 : Try.prog.cellsOf 5 = 1 := by kernel_rfl
  obtain ⟨fuel, hf⟩ := h
  obtain ⟨xs, m, _, _, _, hxl, hx⟩ := DataW.trod_array hu hf
  rw [hc] at hsz
  have hall : ∀ i, i < N → ∃ b : BitVec 8, cs[i]? = some (.int .u8 (b.toNat : Int)) := by
    intro i hi
    have h1 := hx i hi
    rw [List.getElem?_eq_getElem (by omega)] at h1
    obtain ⟨n, e0, _, w0⟩ := DataW.trod_int Try.underlying5 h1
    obtain ⟨b, rfl⟩ := of_wf8 w0
    refine ⟨b, ?_⟩
    rw [hc5] at e0
    have h2 : (List.take 1 (List.drop (i * 1) cs.toList))[0]? = some (.int .u8 (b.toNat : Int)) := by
      have : (Value.agg cs).cells.toList = cs.toList := by simp [Value.cells]
      rw [← this, e0]; rfl
    simpa [List.getElem?_take, List.getElem?_drop] using h2
  refine ⟨fun i => if h : i < N then (hall i h).choose else 0#8, ?_⟩
  congr 1
  apply Array.ext'
  apply List.ext_getElem?
  intro i
  by_cases hi : i < N
  · have h1 := (hall i hi).choose_spec
    rw [show (row N (yv fun i => if h : i < N then (hall i h).choose else 0#8)).toArray.toList = row N (yv fun i => if h : i < N then (hall i h).choose else 0#8) from rfl, row_get N _ i hi]
    simp only [yv, dif_pos hi]
    simpa using h1
  · rw [List.getElem?_eq_none (by simpa [hsz] using hi), List.getElem?_eq_none (by simpa [row_length] using hi)]
set_option maxRecDepth 100000 in
theorem open_arr16 {H : Type} {enc : TypeId × Value → H} {W : World} {r : Reach} {b0 base : Nat} {spare : Nat → Bool} {held : Bool} {v : Value} {d : DataW H} {p : List MemPlace}
    (hv : Value.okWide Try.prog W r b0 23 v) (h : DataW.Trod enc Try.prog W base spare held 23 v d p) : ∃ f : Nat → BitVec 8, v = .agg (row 16 (yv f)).toArray := open_arr Try.underlying23 (by kernel_rfl) hv h
set_option maxRecDepth 100000 in
theorem open_arr32 {H : Type} {enc : TypeId × Value → H} {W : World} {r : Reach} {b0 base : Nat} {spare : Nat → Bool} {held : Bool} {v : Value} {d : DataW H} {p : List MemPlace}
    (hv : Value.okWide Try.prog W r b0 53 v) (h : DataW.Trod enc Try.prog W base spare held 53 v d p) : ∃ f : Nat → BitVec 8, v = .agg (row 32 (yv f)).toArray := open_arr Try.underlying53 (by kernel_rfl) hv h
def uL (n : Nat) (f : Nat → BitVec 8) : List UInt8 := (List.range n).map fun j => UInt8.ofBitVec (f j)
theorem uL_row (n : Nat) (f : Nat → BitVec 8) : row n (yv f) = (uL n f).map Extern.Stop.cell := by
  unfold row uL
  rw [List.map_map]
  rfl
/-- whether two rows of sixteen bytes are the same -/
def same16 (f g : Nat → BitVec 8) : Bool := uL 16 f == uL 16 g
theorem same16_iff (f g : Nat → BitVec 8) : same16 f g = true ↔ Eq16 f g := by
  unfold same16 uL
  rw [beq_iff_eq, List.map_inj_left]
  constructor
  · intro h j hj
    have := h j (by simpa using hj)
    injection this
  · intro h j hj
    rw [h j (by simpa using hj)]
theorem eq32 (f g : Nat → BitVec 8) (w : World) : (binOp .eql 23 (.agg (row 16 (yv f)).toArray) (.agg (row 16 (yv g)).toArray)).run Try.prog w = .ok (.bool (same16 f g)) w := by
  rw [run_eql_struct, uL_row, uL_row]
  have h := run_equalIn_bytes (P := Try.prog) w 9998 23 5 16 Try.underlying23 Try.underlying5 Try.sizeOf5 (uL 16 f) (uL 16 g) (by simp [uL]) (by simp [uL])
  rw [h]
  rfl
theorem same16_bool {f g f' g' : Nat → BitVec 8} (h : Eq16 f g ↔ Eq16 f' g') : same16 f g = same16 f' g' := by
  cases h1 : same16 f g with
  | true => exact ((same16_iff _ _).2 (h.1 ((same16_iff _ _).1 h1))).symm
  | false =>
    cases h2 : same16 f' g' with
    | true => rw [(same16_iff _ _).2 (h.2 ((same16_iff _ _).1 h2))] at h1; exact h1.symm
    | false => rfl
theorem enc_same (K f g : Nat → BitVec 8) (r : Nat) (hr : 1 ≤ r) : same16 (encF K bxT twT r f) (encF K bxT twT r g) = same16 f g :=
  same16_bool ⟨fun h => (dec_enc K f r hr).symm.trans ((decF_congr K r h).trans (dec_enc K g r hr)), fun h => encF_congr K r h⟩
theorem dec_same (K f g : Nat → BitVec 8) (r : Nat) (hr : 1 ≤ r) : same16 (decF K ubT twT r f) (decF K ubT twT r g) = same16 f g :=
  same16_bool ⟨fun h => (enc_dec K f r hr).symm.trans ((encF_congr K r h).trans (enc_dec K g r hr)), fun h => decF_congr K r h⟩
end Go.Proofs.Ytkoodgfadedeoaa
