/-
  Going over a Sorted.
-/
import Derived.Test.YtboncdlihgpepaaSo5
import Derived.Test.YtboncdlihgpepaaRh
import Derived.Shelf.Abstract
import Derived.OwnWalkIn
import Derived.TacticsInMore
import Derived.LoopNIn
import Derived.LoopIn
namespace Go.Proofs.Ytboncdlihgpepaa
open Go.RowKit Go.BigFrame Go.Maps Go.ChangeMaps Go.MapKept
set_option linter.unusedVariables false
open Go.Shelf Go.Lib Go.Sort
attribute [local go_sem] Oper.semAt_some
theorem inf88 : (Try.prog.info? 88).map (·.size) = some 2 := by kernel_rfl
theorem zero88 (w : World) : (zeroValue 88).run Try.prog w = .ok (.agg (row 2 (pV [(0, ByteArray.empty)])).toArray) w := by kernel_rfl
theorem pV_at (L : List KV) {m j : Nat} (hj : j < 2) : pV L (m * 2 + j) = pV [L.getD m kd] j := by
  unfold pV
  rw [show (m * 2 + j) / 2 = m by omega, show (m * 2 + j) % 2 = j % 2 by omega, show j / 2 = 0 by omega]
  rfl
set_option maxRecDepth 20000 in
set_option maxHeartbeats 4000000 in
theorem nil_entries (w : World) : Calls Try.prog 49 #[.pointer none] w fun e w' => ∃ b, e = .returned (.slice (some ⟨b, 0, none⟩) 0 0) ∧ Ext w w' := by
  go_enter Try.func49, Try.ntmps49
  go_upto_region 0 with (fail)
  refine wp_region_lit ?_
  refine xm [some (.slice none 0 0)] (by kernel_rfl) (by simp [xr, go_sem]) ?_
  simp only [xw, p0, p1, p2, p3]
  go_upto_region 1 with (fail)
  refine wp_region_lit ?_
  refine xm [some (.pointer none)] (by kernel_rfl) (by simp [xr, go_sem]) ?_
  simp only [xw, p0, p1, p2, p3]
  refine wpList_call rfl (by simp [go_sem]) ((nil_len w).mono ?_)
  rintro e yy ⟨rfl, hyy⟩
  refine ⟨_, rfl, ?_⟩
  simp only [Act.put, List.setIfInBounds_toArray, List.set_cons_zero, List.set_cons_succ]
  replace hyy := hyy.symm
  subst hyy
  obtain ⟨ie, ze, e1, e2, e3, e4, e5⟩ := elem88.info
  refine wpList_make_own w rfl (.const (.int .i64 0)) (.tmp 7) 85 rfl w.heap.size 88 ie ze 2 elem88.slice e1 e2 e3 .i64 .i64 _ 0 rfl rfl rfl (by omega) (by unfold maxLen; omega) (Nat.le_refl _) ?_
  intro x1 hO1 hg1
  have hX1 : Hid (Ext w x1) := below_grown (Nat.le_refl _) hg1 fun k hk => by cases hk
  clear hO1 hg1 e1 e2 e3 e4 e5
  simp only [Act.put, List.setIfInBounds_toArray, List.set_cons_zero, List.set_cons_succ]
  refine xm [some (.slice (some ⟨w.heap.size, 0, none⟩) 0 0)] (by kernel_rfl) (by simp [xr, go_sem]) ?_
  simp only [xw, p0, p1, p2, p3]
  go_upto_region 2 with (fail)
  refine wp_region_lit ?_
  refine xm [some (.pointer none), some (.bool true)] (by kernel_rfl) (by simp [xr, go_sem]) ?_
  simp only [xw, p0, p1, p2, p3]
  go_upto_region 3 with (fail)
  refine wp_region_lit ?_
  refine xm [some (.slice (some ⟨w.heap.size, 0, none⟩) 0 0), some (.slice (some ⟨w.heap.size, 0, none⟩) 0 0)] (by kernel_rfl) (by simp [xr, go_sem]) ?_
  simp only [xw, p0, p1, p2, p3]
  go_wp2
  go_ret
  exact ⟨_, rfl, hX1.out⟩
set_option maxRecDepth 20000 in
set_option maxHeartbeats 4000000 in
theorem all_any (v : Option Addr) (w : World) : Calls Try.prog 32 #[.pointer v] w fun e w' => e = .returned (.func (.func 48) #[] #[.pointer (some ⟨w.heap.size, 0, none⟩)]) ∧ w' = w.alloc (.cells #[.pointer v] 58) := by
  go_enter Try.func32, Try.ntmps32
  go_wp2
  go_ret
  exact ⟨rfl, rfl⟩
/-- cells at or behind B stand -/
def KpC (B : Nat) (X Y : World) : Prop := X.heap.size ≤ Y.heap.size ∧ ∀ (k : Nat) (o : Obj), B ≤ k → X.heap[k]? = some o → o.isCells = true → Y.heap[k]? = some o
theorem kpC_t {B : Nat} {X Y Z : World} (h : KpC B X Y) (k : KpC B Y Z) : KpC B X Z := ⟨Nat.le_trans h.1 k.1, fun i o hi ho hc => k.2 i o hi (h.2 i o hi ho hc) hc⟩
theorem kpC_b {B : Nat} (W : World) (l : Nat) (o o' : Obj) (h : W.heap[l]? = some o) (hc : o.isCells = false) : KpC B W (W.putObj l o') :=
  ⟨(grownBy_putObj' W l o').size, fun k q _ hk hq => by
    by_cases e : k = l
    · subst e
      rw [h] at hk
      injection hk with hk
      rw [hk, hq] at hc
      cases hc
    · exact ((grownBy_putObj' W l o').block k (Array.getElem?_eq_some_iff.1 hk).1 (fun q => e (Option.some.inj q))).trans hk⟩
theorem kpC_of_but {B c : Nat} {X Y : World} (h : But c X Y) (hc : c < B) : KpC B X Y := ⟨h.size, fun k o hk ho _ => (h.block k (Array.getElem?_eq_some_iff.1 ho).1 (fun q => by have := Option.some.inj q; omega)).trans ho⟩
theorem kpC_of_ext {B : Nat} {X Y : World} (h : Ext X Y) : KpC B X Y := ⟨Below.size h, fun k o _ ho _ => (Below.block h k (Array.getElem?_eq_some_iff.1 ho).1).trans ho⟩
theorem RowAt.kpc {B b n : Nat} {g : Nat → Value} {X Y : World} (h : RowAt b n g X) (hn : 0 < n) (k : KpC B X Y) (hB : B ≤ b) : RowAt b n g Y := by
  have e : Y.heap[b]? = X.heap[b]? := by
    obtain ⟨o, ho⟩ : ∃ o, X.heap[b]? = some o := ⟨_, Array.getElem?_eq_getElem h.2.2⟩
    refine (k.2 b o hB ho ?_).trans ho.symm
    have h1 := h.1 0 hn
    unfold World.cell? at h1
    rw [ho] at h1
    cases o <;> simp_all [Obj.isCells]
  exact ⟨fun j hj => (World.cell?_of_block (a := ⟨b, j, none⟩) e).trans (h.1 j hj), fun j hj => (World.frozen?_of_block (a := ⟨b, j, none⟩) e).trans (h.2.1 j hj), Nat.lt_of_lt_of_le h.2.2 k.1⟩
/-- what the caller of an iterator keeps -/
def JH (B : Nat) (J : List KV → World → Prop) (pre : List KV) (X : World) : Prop := AbidesFrom B J ∧ J pre X
theorem JH.ext {B : Nat} {J : List KV → World → Prop} {pre : List KV} {X Y : World} (h : JH B J pre X) (k : Ext X Y) : JH B J pre Y :=
  ⟨h.1, h.1 pre X Y none h.2 ⟨Below.os k, Below.tape k, Below.output k, Below.size k, fun i hi _ => Below.block k i hi⟩ fun r e => by cases e⟩
abbrev encV (p : KV) : Array Value := #[.int .i64 p.1, .string p.2]
theorem take_snoc (L : List KV) {m : Nat} (h : m < L.length) : L.take m ++ [L.getD m kd] = L.take (m + 1) := by
  rw [List.take_add_one, List.getElem?_eq_getElem h, List.getD_eq_getElem?_getD, List.getElem?_eq_getElem h]
  rfl
set_option maxRecDepth 20000 in
set_option maxHeartbeats 4000000 in
theorem all_stops (n : Nat) (hn : 1 ≤ n) {sb mb bx B : Nat} {L : List KV} {w : World} (h : SoAt sb mb L w) (hle : L.length ≤ 4398046511104) (hx : RowAt bx 1 (fun _ => .pointer (some ⟨sb, 0, none⟩)) w) (hBw : B ≤ w.heap.size) :
    SeqStopsK Fence.wide n Try.prog 48 #[.pointer (some ⟨bx, 0, none⟩)] encV (KpC B) (fun xs => xs = L) (fun pre => pre <+: L) L.length w := fun l J Jx W hW hJ hJx hY hJ0 => by
  obtain ⟨W0, hW0⟩ : ∃ W0, W0 = W.heap.size := ⟨_, rfl⟩
  rw [← hW0] at hJ
  have hXW : Ext w W := hW
  have hBW := hideit (Nat.le_trans hBw (Below.size hXW))
  have kE := hideit (entries_go (h.ext hXW) hle)
  have hB := hideit (hx.carry hXW)
  have hJs : Hid (JH W0 J [] W) := ⟨hJ, hJ0⟩
  replace hY := hideit hY
  clear hJ hJx hJ0 hW h hx hXW hBw hW0
  refine (callsIn_of_wp Try.func48 rfl trivial ?_ rfl)
  refine wpIn_wide.2 ?_
  simp only [Try.ntmps48, List.size_toArray, List.length_cons, List.length_nil, Nat.reduceAdd, Nat.reduceSub, Array.replicate_succ, Array.replicate_zero, List.push_toArray, List.append_toArray, List.nil_append, List.cons_append]
  go_upto_region 0 with (fail)
  refine wp_region_lit ?_
  have m1 : W.cell? ⟨bx, 0, none⟩ = some (.pointer (some ⟨sb, 0, none⟩)) := hB.out.1 0 (by decide)
  refine xm [some (.pointer (some ⟨sb, 0, none⟩))] (by kernel_rfl) (by simp [xr, go_sem, m1]) ?_
  simp only [xw, p0, p1, p2, p3]
  clear m1
  refine wpList_call rfl (by simp [go_sem]) ((kE.out).mono ?_)
  rintro e W2 ⟨ol, cap, rfl, hX2, hR2⟩
  refine ⟨_, rfl, ?_⟩
  simp only [Act.put, List.setIfInBounds_toArray, List.set_cons_zero, List.set_cons_succ]
  replace hB := hideit (hB.out.carry hX2)
  replace hJs := hideit (hJs.out.ext hX2)
  replace hX2 := hideit hX2
  replace hR2 := hideit hR2
  clear kE
  refine xm [some (.int .i64 (L.length : Int)), some (.int .i64 0)] (by kernel_rfl) (by simp [xr, go_sem]) ?_
  simp only [xw, p0, p1, p2, p3]
  refine wpList_nil ?_
  go_wp2
  go_loopw [8] (fun iv X => ∃ m : Nat, m ≤ L.length ∧ iv = .int .i64 (m : Int) ∧ JH W0 J (L.take m) X ∧ (L = [] ∨ ∃ b, ol = some ⟨b, 0, none⟩ ∧ B ≤ b ∧ RowAt b (L.length * 2) (pV L) X)) (fun iv _ => L.length - (intOf iv).toNat)
  case atStart => exact ⟨0, Nat.zero_le _, rfl, hJs.out, by rcases hR2.out with h | ⟨b, h1, h2, h3⟩; exact .inl h; exact .inr ⟨b, h1, Nat.le_trans hBW.out h2, h3⟩⟩
  case round =>
    obtain ⟨m, hm, rfl, hJ1, hR⟩ := hrel
    clear hR2 hJs hB hX2
    by_cases hlt : m < L.length
    · obtain ⟨b, rfl, hb, hR⟩ : ∃ b, ol = some ⟨b, 0, none⟩ ∧ B ≤ b ∧ RowAt b (L.length * 2) (pV L) wr := by
        rcases hR with h | h
        · rw [h] at hlt; cases hlt
        · exact h
      obtain ⟨p, hp⟩ : ∃ p, L.getD m kd = p := ⟨_, rfl⟩
      replace hp := hideit hp
      replace hb := hideit hb
      replace hR := hideit hR
      replace hJ1 := hideit hJ1
      have i1 : (m : Int) < (L.length : Int) := by omega
      go_upto_region 1 with (fail)
      refine wp_region_lit ?_
      refine xm [some (.bool true)] (by kernel_rfl) (by simp [xr, go_sem, i1]) ?_
      simp only [xw, p0, p1, p2, p3]

      go_upto_region 2 with (fail)
      refine wp_region_lit ?_
      refine xm [some (.pointer (some ⟨b, m * 2, none⟩))] (by kernel_rfl) (by simp [xr, go_sem, i1]) ?_
      simp only [xw, p0, p1, p2, p3]
      refine wpList_run rfl (.agg (row 2 (pV [p])).toArray) (xload 88 (.tmp 10) rfl b (m * 2) 2 (pV [p]) rfl (hR.out.sub (m * 2) 2 (by omega) (pV [p]) (fun j hj => by rw [pV_at L hj, hp.out])) Try.underlying88 rfl inf88) ?_
      simp only [Act.put, List.setIfInBounds_toArray, List.set_cons_zero, List.set_cons_succ]
      refine wpList_to rfl (.pointer (some ⟨wr.heap.size, 0, none⟩)) (wr.alloc (.cells (row 2 (pV [(0, ByteArray.empty)])).toArray 88)) (xalloc 88 _ rfl (zero88 _)) ?_
      simp only [Act.put, List.setIfInBounds_toArray, List.set_cons_zero, List.set_cons_succ]
      have N0 := hideit ((RowAt.new wr 2 (pV [(0, ByteArray.empty)]) 88).cells (g' := pV [p]))
      have XE : Ext wr ((wr.alloc (.cells (row 2 (pV [(0, ByteArray.empty)])).toArray 88)).setCells wr.heap.size 0 (row 2 (pV [p]))) := below_setCells wr.heap.size (Nat.le_refl _) _ 0 _ ((Below.refl _ _).alloc (Nat.le_refl _) _)
      have Dz_0 : Hid (b ≠ wr.heap.size) := Nat.ne_of_lt hR.out.2.2
      refine xst rfl ((wr.alloc (.cells (row 2 (pV [(0, ByteArray.empty)])).toArray 88)).setCells wr.heap.size 0 (row 2 (pV [p]))) (xstore 88 (.tmp 4) (.tmp 11) rfl wr.heap.size 2 _ (pV [p]) rfl rfl (RowAt.new wr 2 (pV [(0, ByteArray.empty)]) 88) inf88 (fun j _ => pV_one _ j)) ?_
      simp only [Act.put]
      generalize (wr.alloc (.cells (row 2 (pV [(0, ByteArray.empty)])).toArray 88)).setCells wr.heap.size 0 (row 2 (pV [p])) = x2 at N0 XE ⊢
      obtain ⟨z, ez⟩ : ∃ b, b = wr.heap.size := ⟨_, rfl⟩
      have ABz : Hid (wr.heap.size ≤ z) := by rw [ez]; exact Nat.le_refl _
      rw [← ez] at N0 Dz_0 ⊢
      clear ez
      have Hz := N0
      clear N0
      replace hR := hideit (hR.out.carry XE)
      replace hJ1 := hideit (hJ1.out.ext XE)
      clear XE
      obtain ⟨fn, tmps, assign, body, hy, hRd⟩ := hY.out (L.take m) p x2 hJ1.out.2 (by rw [List.length_take]; omega)
      dsimp only [encV] at hy
      have c0 : x2.cell? ⟨z, 0, none⟩ = some (.int .i64 p.1) := Hz.out.1 0 (by decide)
      have c1 : x2.cell? ⟨z, 1, none⟩ = some (.string p.2) := Hz.out.1 1 (by decide)
      refine wpList_nil ?_
      go_upto_region 3 with (fail)
      refine (wpIn_wide (n := n)).1 ?_
      gi_wp2
      refine hRd.mono ?_
      rintro e W3 (⟨rfl, hJ3, hK3⟩ | ⟨rfl, hJx3⟩)
      · have hR3 := hR.out.kpc (by omega) hK3 hb.out
        have hJ4 : Hid (JH W0 J (L.take (m + 1)) W3) := ⟨hJ1.out.1, by rw [← take_snoc L hlt, hp.out]; exact hJ3⟩
        replace hR3 := hideit hR3
        clear hy hRd hJ1 hR c0 c1 hK3 hJ3
        gi_wp2
        go_wp2
        exact ⟨⟨m + 1, by omega, by go_num, hJ4.out, .inr ⟨b, rfl, hb.out, hR3.out⟩⟩, by simp [intOf]; omega⟩
      · gi_wp2
        go_wp2
        refine bodyPost_ret (results_none rfl _ _ _) rfl ?_
        refine ⟨⟨_, rfl⟩, .inr ⟨L.take m ++ [p], ?_, hJx3⟩⟩
        rw [← hp.out, take_snoc L hlt]
        exact List.take_prefix _ _
    · have i1 : ¬ (m : Int) < (L.length : Int) := by omega
      replace hJ1 := hideit hJ1
      clear hR
      go_upto_region 1 with (fail)
      refine wp_region_lit ?_
      refine xm [some (.bool false)] (by kernel_rfl) (by simp [xr, go_sem, i1]) ?_
      simp only [xw, p0, p1, p2, p3]
      go_wp2
      go_end0
      exact ⟨⟨_, rfl⟩, .inl (by have e := hJ1.out.2; rw [List.take_of_length_le (by omega)] at e; exact e)⟩
end Go.Proofs.Ytboncdlihgpepaa
