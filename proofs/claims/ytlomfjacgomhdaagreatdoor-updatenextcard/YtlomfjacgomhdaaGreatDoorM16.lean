/-
  Lists of rows: appended to, handed on, held against each other (rowsOf, sameRows, matOf of the laws of layer 8).
-/
import Derived.Test.YtlomfjacgomhdaaGreatDoorM2
import Derived.Test.YtlomfjacgomhdaaGreatDoorVcB
import Derived.Deep.AppendLies
import Derived.Deep.RegionHeld3
set_option linter.unusedSimpArgs false
set_option linter.unusedVariables false
namespace Go.Proofs.YtlomfjacgomhdaaGreatDoor
open Go.RowKit Vc Mt
namespace Mt
theorem infoSl : (Tryz.prog.info? 22).map (fun i => (i.zero, i.size, i.bytes)) = some (some (.slice none 0 0), 1, 24) := by kernel_rfl
def svals (n : Nat) (S : Nat → Value) : List Value := (List.range n).map S
theorem svals_len (n : Nat) (S : Nat → Value) : (svals n S).length = n := by simp [svals]
theorem svals_at {n k : Nat} {S : Nat → Value} (h : k < n) : (svals n S)[k]? = some (S k) := by simp [svals, h]
theorem svals_push (n : Nat) (S : Nat → Value) (v : Value) : svals n S ++ [v] = svals (n + 1) (fun k => if k < n then S k else v) := by
  unfold svals
  rw [List.range_succ, List.map_append]
  congr 1
  · exact List.map_congr_left fun k hk => by rw [if_pos (List.mem_range.1 hk)]
  · simp
def Grid (w : World) (lo : Option Addr) (n cm m : Nat) (F : Nat → Nat → Int) : Prop := ∃ A C, Sls w lo n cm A (fun _ => m) C ∧ ∀ k, k < n → Sl w (A k) m (C k) (F k)
theorem Grid.keep {w w' : World} {lo : Option Addr} {n cm m : Nat} {F : Nat → Nat → Int} (h : Grid w lo n cm m F) (b : Below w.heap.size w w') : Grid w' lo n cm m F := by
  obtain ⟨A, C, h1, h2⟩ := h
  exact ⟨A, C, h1.keep b, fun k hk => (h2 k hk).keep b⟩
theorem Grid.congr {w : World} {lo : Option Addr} {n cm m : Nat} {F G : Nat → Nat → Int} (h : Grid w lo n cm m F) (e : ∀ i j, i < n → j < m → F i j = G i j) : Grid w lo n cm m G := by
  obtain ⟨A, C, h1, h2⟩ := h
  exact ⟨A, C, h1, fun k hk => (h2 k hk).congr fun j hj => e k j hk hj⟩
structure Lst (B : Nat) (w0 w : World) (v : Value) (n m : Nat) (F : Nat → Nat → Int) : Prop where
  row : ∃ S, w.ownsRow B 22 1 v n (svals n S) ∧ ∀ j, j < n → ∃ a c, S j = .slice a m c ∧ Sl w a m c (F j) ∧ ∀ x, a = some x → v.ownBlock ≠ some x.block
  below : Below B w0 w
  base : B ≤ w.heap.size
theorem Lst.nil {B : Nat} {w0 w : World} (h : Below B w0 w) (hB : B ≤ w.heap.size) (m : Nat) (F : Nat → Nat → Int) : Lst B w0 w (.slice none 0 0) 0 m F := ⟨⟨fun _ => undef, World.ownsRow_nil _ _ _ _, fun j hj => by omega⟩, h, hB⟩
theorem Lst.keep {B : Nat} {w0 w w' : World} {v : Value} {n m : Nat} {F : Nat → Nat → Int} (h : Lst B w0 w v n m F) (b : Below w.heap.size w w') : Lst B w0 w' v n m F := by
  obtain ⟨S, h1, h2⟩ := h.row
  refine ⟨⟨S, row_keep h1 b, fun j hj => ?_⟩, h.below.trans (b.mono h.base), Nat.le_trans h.base b.size⟩
  obtain ⟨a, c, e1, e2, e3⟩ := h2 j hj
  exact ⟨a, c, e1, e2.keep b, e3⟩
theorem Lst.apart {B : Nat} {w0 w : World} {v : Value} {n m : Nat} {F : Nat → Nat → Int} (h : Lst B w0 w v n m F) {B' : Nat} (hB : w.heap.size ≤ B') {ao : Option Addr} (hf : Fresh B' ao) : ∀ x, ao = some x → v.ownBlock ≠ some x.block := by
  intro x hx e
  obtain ⟨S, h1, _⟩ := h.row
  have h3 := (h1.lt _ e).2
  have h4 := hf x hx
  omega
theorem Lst.grid {B : Nat} {w0 w : World} {v : Value} {n m : Nat} {F : Nat → Nat → Int} (h : Lst B w0 w v n m F) : ∃ lo cm, v = .slice lo n cm ∧ Grid w lo n cm m F := by
  obtain ⟨S, ⟨h1, h2⟩, h3⟩ := h.row
  rcases h2 with ⟨rfl, rfl⟩ | ⟨g, cap, cur, rfl, hb, hg, hn, hc, hs, ht⟩
  · exact ⟨none, 0, rfl, fun _ => none, fun _ => 0, ⟨Nat.le_refl _, by omega, fun j hj => by omega⟩, fun k hk => by omega⟩
  · refine ⟨_, _, rfl, fun k => match S k with | .slice a _ _ => a | _ => none, fun k => match S k with | .slice _ _ c => c | _ => 0, ⟨hn, hc, fun k hk => ⟨_, rfl, ?_⟩⟩, fun k hk => ?_⟩
    · obtain ⟨a, c, e1, e2, e3⟩ := h3 k hk
      have e := svals_at (S := S) hk
      rw [← ht] at e
      have e4 : cur[k]? = some (S k) := by
        rw [List.getElem?_take] at e
        split at e
        · simpa using e
        · cases e
      rw [Addr.add_lit, Nat.zero_add]
      simp only [e1] at e4 ⊢
      simp [World.cell?, hg, e4]
    · obtain ⟨a, c, e1, e2, e3⟩ := h3 k hk
      simp only [e1]
      exact e2
theorem Sl.grown {w w' : World} {ao : Option Addr} {n ca : Nat} {z : Nat → Int} {row : Option Nat} (h : Sl w ao n ca z) (g : w.grownBy w' row) (hne : ∀ x, ao = some x → row ≠ some x.block) : Sl w' ao n ca z :=
  ⟨h.le, h.cap, fun k hk => by
    obtain ⟨x, hx, hc⟩ := h.at' k hk
    refine ⟨x, hx, ?_⟩
    have hlt := World.block_lt_of_cell? w _ hc
    have hb : (x.add k).block = x.block := by unfold Addr.add; split <;> rfl
    have e := g.block (x.add k).block hlt (by rw [hb]; exact fun e => hne x hx e.symm)
    rw [World.cell?_of_block e]
    exact hc⟩
theorem wpList_pushS {ops : Array Oper} {rest : List Oper} {o : Oper} {a : Act} {Q : Exit → Act → World → Prop} {wr : World} (hgd : o.guard = none) (s x : Operand)
    (ho : o.op = .call { callee := .builtin .append, args := #[s, x], argTypes := #[23, 23] }) (B : Nat) (w0 : World) (v : Value) (n m : Nat) (F : Nat → Nat → Int) (hs : a.eval s = v) (hL : Lst B w0 wr v n m F) (hm : 0 < m) (hl : n ≤ 2000000)
    (ra : Option Addr) (rc : Nat) (hr : Sl wr ra m rc (F n)) (hap : ∀ x, ra = some x → v.ownBlock ≠ some x.block)
    (hx : a.eval x = .slice (some ⟨wr.heap.size, 0, none⟩) 1 1)
    (h : ∀ v' w', Lst B w0 w' v' (n + 1) m F → wpList Tryz.prog ops Q rest (a.put o.dst v') w') : wpList Tryz.prog ops Q (o :: rest) a (wr.alloc (.cells #[.slice ra m rc] 22)) := by
  obtain ⟨i0, hi, hz0, hz1, hz2⟩ := info_parts infoSl
  obtain ⟨S, h1, h2⟩ := hL.row
  refine wpList_append_lies _ hgd s x 23 ho B 22 i0 (.slice none 0 0) 1 24 Tryz.underlying23 hi hz0 hz1 hz2 rfl (by decide) v n (svals n S) hs (h1.alloc _) ⟨wr.heap.size, 0, none⟩ 1 1 [.slice ra m rc] hx rfl (cell_one_new _ _ _) (by intro u hu; simp at hu; subst hu; rfl) (by omega) (by unfold maxLen; omega) (by omega) (by have := hL.base; simp; omega) _ rfl ?_
  intro g cap w' o1 o2 o3 o4
  rw [svals_push] at o1
  refine h _ w' ⟨⟨_, o1, fun j hj => ?_⟩, ?_, Nat.le_trans (by have := hL.base; simp; omega) o2.size⟩
  · have hg : ∀ b, b < wr.heap.size → v.ownBlock ≠ some b → g ≠ b := fun b hb e1 e2 => by
      rcases o3 with o3 | o3
      · exact e1 (by rw [o3, e2])
      · simp at o3; omega
    have hblk : ∀ {ao : Option Addr} {ca : Nat} {z : Nat → Int}, Sl wr ao m ca z → (∀ x, ao = some x → v.ownBlock ≠ some x.block) → ∃ co, ∃ cc, Value.slice ao m ca = .slice co m cc ∧ Sl w' co m cc z ∧ ∀ x, co = some x → Value.ownBlock (.slice (some ⟨g, 0, none⟩) (n + 1) cap) ≠ some x.block := by
      intro ao ca z hsl hne
      refine ⟨ao, ca, rfl, Sl.grown (hsl.keep (below_al (Below.refl _ _) _)) o2 hne, fun x hx e => ?_⟩
      have e3 : g = x.block := by simpa [Value.ownBlock] using e
      obtain ⟨y, hy, hc⟩ := hsl.at' 0 hm
      rw [hx] at hy
      cases hy
      have hlt := World.block_lt_of_cell? wr _ hc
      have hb : (x.add 0).block = x.block := by unfold Addr.add; split <;> rfl
      exact hg x.block (by omega) (hne x hx) e3
    by_cases hjn : j < n
    · obtain ⟨ao, ca, e1, e2, e3⟩ := h2 j hjn
      simp only [if_pos hjn, e1]
      exact hblk e2 e3
    · obtain rfl : j = n := by omega
      simp only [if_neg hjn]
      exact hblk hr hap
  · refine (hL.below.alloc hL.base _).grown o2 (by have := hL.base; simp; omega) ?_
    intro k hk
    exact (h1.lt k hk).1
end Mt
set_option maxRecDepth 10000 in
set_option maxHeartbeats 1000000 in
theorem rowsOf_any (n m : Nat) (F : Nat → Nat → Int) (w : World) (h1 : 1 ≤ n) (h2 : n ≤ 6) (h3 : 1 ≤ m) (h4 : m ≤ 6) :
    Calls Tryz.prog 46 #[.agg (mvals n m (mz n m F)).toArray] w fun e w' => ∃ lo cm, e = .returned (.slice lo n cm) ∧ Grid w' lo n cm m F ∧ Below w.heap.size w w' := by
  have rA := mrow_new w n m (mz n m F)
  have hB := below_al (Below.refl _ w) (.cells (mvals n m (mz n m F)).toArray 41)
  obtain ⟨W, hW⟩ : ∃ W, W = w.alloc (.cells (mvals n m (mz n m F)).toArray 41) := ⟨_, rfl⟩
  rw [← hW] at rA hB
  have HCk := Hid.mkV (check_may W (may_mz (F := F) h1 h2 h3 h4))
  have HR := Hid.mkV (fun i (hi : i < n) W' => mrow_any n m i F W' h1 h2 h3 h4 hi)
  obtain ⟨z, hz⟩ : ∃ z, z = mz n m F := ⟨_, rfl⟩
  rw [← hz] at HCk HR rA hW
  rw [← hz]
  have HW := Hid.mkV hW
  clear hz hW
  go_enter Tryz.func46, Tryz.ntmps46
  go_wp2_with (first
    | (rw [← HW.out]; refine wpList_loadM (by rfl) _ (by rfl) _ _ _ _ (by rfl) (by with_reducible exact rA) ?_)
    | fail)
  refine HCk.out.mono ?_
  rintro e w1 ⟨rfl, k1⟩
  have r1 := rA.keep k1
  have B1 := below_tr hB k1
  clear rA hB HCk
  go_wp2
  go_loopw [3, 4] (fun out i wr => ∃ k : Nat, k ≤ n ∧ i = .int .i64 (k : Int) ∧ Lst w1.heap.size w1 wr out k m F) (fun _ i _ => n - (intOf i).toNat)
  case atStart => exact ⟨0, by omega, rfl, Lst.nil (Below.refl _ _) (Nat.le_refl _) _ _⟩
  case round =>
    obtain ⟨k, hk, rfl, hL⟩ := hrel
    have r2 := r1.keep hL.below
    have c0 := r2.rows
    by_cases h : k < n
    · have HR1 := Hid.mkV (HR.out k h)
      go_wp2_with (first
        | (refine wpList_loadM (by rfl) _ (by rfl) _ _ _ _ (by rfl) (by with_reducible exact r2) ?_)
        | fail)
      refine (HR1.out _).mono ?_
      rintro e w2 ⟨co, cc, rfl, s2, f2, k2⟩
      have hL2 := hL.keep k2
      have ap := hL.apart (Nat.le_refl _) f2
      have HS2 := Hid.mkV s2
      have HAP := Hid.mkV ap
      clear s2 ap f2
      go_wp2_with (at_builtin; refine wpList_pushS (by rfl) _ _ (by rfl) w1.heap.size w1 _ k m F (by rfl) hL2 (by omega) (by omega) co cc HS2.out HAP.out (by rfl) ?_)
      intro v' w' hL'
      go_wp2
      go_roundw
      case rel => exact ⟨k + 1, by omega, by go_num, hL'⟩
      case measure => simp [intOf]; omega
    · obtain rfl : k = n := by omega
      obtain ⟨lo, cm, rfl, hG⟩ := hL.grid
      go_wp2
      go_ret
      exact ⟨lo, cm, rfl, hG, below_tr B1 hL.below⟩
set_option maxRecDepth 10000 in
set_option maxHeartbeats 1000000 in
theorem sameRows_yes (n m ca cb : Nat) (ao bo : Option Addr) (F : Nat → Nat → Int) (w : World) (hn : n ≤ 6) (ga : Grid w ao n ca m F) (gb : Grid w bo n cb m F) :
    Calls Tryz.prog 45 #[.slice ao n ca, .slice bo n cb] w fun e w' => e = .returned (.bool true) ∧ Below w.heap.size w w' := by
  obtain ⟨A, C, hA, hAs⟩ := ga
  obtain ⟨B, D, hB, hBs⟩ := gb
  obtain ⟨xa, hao, hca⟩ := hA.get
  obtain ⟨xb, hbo, hcb⟩ := hB.get
  have l1 := hA.le
  have l2 := hA.cap
  have l3 := hB.le
  have l4 := hB.cap
  have HAO := Hid.mkV hao
  have HBO := Hid.mkV hbo
  have HCA := Hid.mkV hca
  have HCB := Hid.mkV hcb
  have HAS := Hid.mkV hAs
  have HBS := Hid.mkV hBs
  clear hao hbo hca hcb hAs hBs hA hB
  go_enter Tryz.func45, Tryz.ntmps45
  go_wp2
  go_loopw [5] (fun i wr => ∃ k : Nat, k ≤ n ∧ i = .int .i64 (k : Int) ∧ Below w.heap.size w wr) (fun i _ => n - (intOf i).toNat)
  case atStart => exact ⟨0, by omega, rfl, Below.refl _ _⟩
  case round =>
    rename World => wo
    obtain ⟨k, hk, rfl, hbel⟩ := hrel
    by_cases h : k < n
    · obtain rfl := HAO.out (by omega)
      obtain rfl := HBO.out (by omega)
      have c1 := keep_cell hbel (HCA.out k h)
      have c2 := keep_cell hbel (HCB.out k h)
      have HNu := Hid.mkV (fun W (b : Below wo.heap.size wo W) => nums_yes (A k) (B k) m (C k) (D k) (F k) W ((HAS.out k h).keep (below_tr hbel b)) ((HBS.out k h).keep (below_tr hbel b)))
      obtain ⟨ak, hak⟩ : ∃ ak, ak = A k := ⟨_, rfl⟩
      obtain ⟨bk, hbk⟩ : ∃ bk, bk = B k := ⟨_, rfl⟩
      obtain ⟨ck, hck⟩ : ∃ ck, ck = C k := ⟨_, rfl⟩
      obtain ⟨dk, hdk⟩ : ∃ dk, dk = D k := ⟨_, rfl⟩
      rw [← hak, ← hbk, ← hck, ← hdk] at HNu
      rw [← hak, ← hck] at c1
      rw [← hbk, ← hdk] at c2
      clear hak hbk hck hdk
      go_wp2
      go_region_held3 (fun w' => w'.cell? (xa.add k) = some (.slice ak m ck) ∧ w'.cell? (xb.add k) = some (.slice bk m dk))
        (first
          | (refine ⟨keep_cell (W := wo) ?_ c1, keep_cell (W := wo) ?_ c2⟩ <;> first | with_reducible exact Below.refl _ _ | with_reducible exact Vc.below_drew' _ | with_reducible exact kq))
        (first
          | (go_at_call 11; refine (HNu.out _ (Vc.below_drew' _)).mono ?_; rintro e wq ⟨rfl, kq'⟩
             have kq : Below wo.heap.size wo wq := below_tr (Vc.below_drew' _) kq'))
      all_goals go_wp2
      all_goals go_roundw
      all_goals first
        | (simp [intOf]; omega)
        | exact ⟨k + 1, by omega, by go_num, below_tr hbel kq⟩
    · obtain rfl : k = n := by omega
      go_wp2
      go_ret
      exact ⟨rfl, hbel⟩
set_option maxRecDepth 10000 in
set_option maxHeartbeats 1000000 in
theorem matOf_by (v : Value) (r c : Int) (z : Nat → Int) (w : World) (h : ∀ W, Below w.heap.size w W → Calls Tryz.prog 61 #[v] W fun e w' => e = .returned (.tuple #[.agg (mvals r c z).toArray, .nilIface]) ∧ Below W.heap.size W w') :
    Calls Tryz.prog 22 #[v] w fun e w' => e = .returned (.agg (mvals r c z).toArray) ∧ Below w.heap.size w w' := by
  have rA := mrow_new w 0 0 (fun _ => 0)
  have hB := below_al (Below.refl _ w) (.cells (mvals 0 0 (fun _ => 0)).toArray 41)
  obtain ⟨W, hW⟩ : ∃ W, W = w.alloc (.cells (mvals 0 0 (fun _ => 0)).toArray 41) := ⟨_, rfl⟩
  rw [← hW] at rA hB
  have HW := Hid.mkV hW
  have HN := Hid.mkV (h W hB)
  clear hW h
  go_enter Tryz.func22, Tryz.ntmps22
  go_wp2_with fail
  rw [zeroM, ← HW.out]
  refine HN.out.mono ?_
  rintro e w1 ⟨rfl, k1⟩
  have r1 := rA.keep k1
  have rR := r1.alloc (.cells (mvals 0 0 (fun _ => 0)).toArray 41)
  have rN := mrow_new w1 0 0 (fun _ => 0)
  have B1 := below_tr hB k1
  have B2 := below_al B1 (.cells (mvals 0 0 (fun _ => 0)).toArray 41)
  have hne : w.heap.size ≠ w1.heap.size := by have := r1.lt; omega
  go_wp2_with (first
    | (rw [zeroM]; refine wpList_storeM rfl _ _ (by rfl) _ _ _ _ _ _ _ (by rfl) (by rfl) (by with_reducible exact rN) ?_)
    | (refine wpList_loadM (by rfl) _ (by rfl) _ _ _ _ (by rfl) (by with_reducible exact rN.row _ _ _) ?_)
    | (refine wpList_storeM rfl _ _ (by rfl) _ _ _ _ _ _ _ (by rfl) (by rfl) (by with_reducible exact rR.rowOther hne _) ?_)
    | fail)
  exact bodyPost_ret (results_M1 Tryz.results22 _ _ w.heap.size _ _ _ rfl ((rR.rowOther hne _).row _ _ _)) rfl ⟨rfl, below_row (below_row B2 B1.size _) (Nat.le_refl _) _⟩
set_option maxRecDepth 10000 in
set_option maxHeartbeats 1000000 in
theorem matOf_no (v : Value) (w : World) (h : ∀ W, Below w.heap.size w W → Calls Tryz.prog 61 #[v] W fun e w' => e = .returned (.tuple #[.agg (mvals 0 0 (fun _ => 0)).toArray, .iface 67 (.int .i64 1)]) ∧ Below W.heap.size W w') :
    Calls Tryz.prog 22 #[v] w fun e w' => e = .returned (.agg (mvals 0 0 (fun _ => 0)).toArray) ∧ Below w.heap.size w w' := by
  have rA := mrow_new w 0 0 (fun _ => 0)
  have hB := below_al (Below.refl _ w) (.cells (mvals 0 0 (fun _ => 0)).toArray 41)
  obtain ⟨W, hW⟩ : ∃ W, W = w.alloc (.cells (mvals 0 0 (fun _ => 0)).toArray 41) := ⟨_, rfl⟩
  rw [← hW] at rA hB
  have HW := Hid.mkV hW
  have HN := Hid.mkV (h W hB)
  clear hW h
  go_enter Tryz.func22, Tryz.ntmps22
  go_wp2_with fail
  rw [zeroM, ← HW.out]
  refine HN.out.mono ?_
  rintro e w1 ⟨rfl, k1⟩
  have r1 := rA.keep k1
  have rR := r1.alloc (.cells (mvals 0 0 (fun _ => 0)).toArray 41)
  have rN := mrow_new w1 0 0 (fun _ => 0)
  have B1 := below_tr hB k1
  have B2 := below_al B1 (.cells (mvals 0 0 (fun _ => 0)).toArray 41)
  have hne : w.heap.size ≠ w1.heap.size := by have := r1.lt; omega
  go_wp2_with (first
    | (rw [zeroM]; refine wpList_storeM rfl _ _ (by rfl) _ _ _ _ _ _ _ (by rfl) (by rfl) (by with_reducible exact rN) ?_)
    | (refine wpList_build0 rfl (by rfl) ?_)
    | (refine wpList_storeM rfl _ _ (by rfl) _ _ _ _ _ _ _ (by rfl) (by rfl) (by with_reducible exact rR.rowOther hne _) ?_)
    | fail)
  exact bodyPost_ret (results_M1 Tryz.results22 _ _ w.heap.size _ _ _ rfl ((rR.rowOther hne _).row _ _ _)) rfl ⟨rfl, below_row (below_row B2 B1.size _) (Nat.le_refl _) _⟩
end Go.Proofs.YtlomfjacgomhdaaGreatDoor
namespace Go.Proofs.YtlomfjacgomhdaaGreatDoor
open Go.RowKit Vc Mt
namespace Mt
structure Rws (B : Nat) (w0 w : World) (v : Value) (n m : Nat) (F : Nat → Nat → Int) : Prop where
  row : ∃ (S : Nat → Value) (G : Nat → Nat), w.ownsRow B 22 1 v n (svals n S) ∧ (∀ j, j < n → S j = .slice (some ⟨G j, 0, none⟩) m m ∧ w.heap[G j]? = some (.cells (vals m (F j)).toArray 2 (0, 0)) ∧ v.ownBlock ≠ some (G j) ∧ B ≤ G j) ∧ ∀ i j, i < n → j < n → i ≠ j → G i ≠ G j
  below : Below B w0 w
  base : B ≤ w.heap.size
theorem heap_lt {w : World} {g : Nat} {o : Obj} (h : w.heap[g]? = some o) : g < w.heap.size := by
  rcases Nat.lt_or_ge g w.heap.size with k | k
  · exact k
  · rw [Array.getElem?_eq_none k] at h; cases h
theorem Rws.nil {B : Nat} {w0 w : World} (h : Below B w0 w) (hB : B ≤ w.heap.size) (m : Nat) (F : Nat → Nat → Int) : Rws B w0 w (.slice none 0 0) 0 m F := ⟨⟨fun _ => undef, fun _ => 0, World.ownsRow_nil _ _ _ _, fun j hj => by omega, fun i j hi => by omega⟩, h, hB⟩
theorem Rws.keep {B : Nat} {w0 w w' : World} {v : Value} {n m : Nat} {F : Nat → Nat → Int} (h : Rws B w0 w v n m F) (b : Below w.heap.size w w') : Rws B w0 w' v n m F := by
  obtain ⟨S, G, h1, h2, h3⟩ := h.row
  refine ⟨⟨S, G, row_keep h1 b, fun j hj => ?_, h3⟩, h.below.trans (b.mono h.base), Nat.le_trans h.base b.size⟩
  obtain ⟨e1, e2, e3, e4⟩ := h2 j hj
  exact ⟨e1, (b.block _ (heap_lt e2)).trans e2, e3, e4⟩
theorem wpList_pushR {ops : Array Oper} {rest : List Oper} {o : Oper} {a : Act} {Q : Exit → Act → World → Prop} {wp wr : World} (hgd : o.guard = none) (s x : Operand)
  (ho : o.op = .call { callee := .builtin .append, args := #[s, x], argTypes := #[23, 23] }) (B : Nat) (w0 : World) (v : Value) (n m : Nat) (F : Nat → Nat → Int) (hs : a.eval s = v) (hL0 : Rws B w0 wp v n m F) (hk : Below wp.heap.size wp wr) (hl : n ≤ 2000000)
  (g0 : Nat) (hr : wr.heap[g0]? = some (.cells (vals m (F n)).toArray 2 (0, 0))) (hsz : wp.heap.size ≤ g0)
  (hx : a.eval x = .slice (some ⟨wr.heap.size, 0, none⟩) 1 1)
  (h : ∀ v' w', Rws B w0 w' v' (n + 1) m F → wpList Tryz.prog ops Q rest (a.put o.dst v') w') : wpList Tryz.prog ops Q (o :: rest) a (wr.alloc (.cells #[.slice (some ⟨g0, 0, none⟩) m m] 22)) := by
 obtain ⟨i0, hi, hz0, hz1, hz2⟩ := info_parts infoSl
 have hL := hL0.keep hk
 obtain ⟨S, G, h1', h2', h3⟩ := hL0.row
 have h1 := row_keep h1' hk
 have hG0 : ∀ j, j < n → G j ≠ g0 := fun j hj e => by have := heap_lt (h2' j hj).2.1; omega
 have hap : v.ownBlock ≠ some g0 := fun e => by have := (h1'.lt _ e).2; omega
 have hB0 : B ≤ g0 := Nat.le_trans hL0.base hsz
 have h2 : ∀ j, j < n → S j = .slice (some ⟨G j, 0, none⟩) m m ∧ wr.heap[G j]? = some (.cells (vals m (F j)).toArray 2 (0, 0)) ∧ v.ownBlock ≠ some (G j) ∧ B ≤ G j := fun j hj => by
  obtain ⟨e1, e2, e3, e4⟩ := h2' j hj
  exact ⟨e1, (hk.block _ (heap_lt e2)).trans e2, e3, e4⟩
 refine wpList_append_lies _ hgd s x 23 ho B 22 i0 (.slice none 0 0) 1 24 Tryz.underlying23 hi hz0 hz1 hz2 rfl (by decide) v n (svals n S) hs (h1.alloc _) ⟨wr.heap.size, 0, none⟩ 1 1 [.slice (some ⟨g0, 0, none⟩) m m] hx rfl (cell_one_new _ _ _) (by intro u hu; simp at hu; subst hu; rfl) (by omega) (by unfold maxLen; omega) (by omega) (by have := hL.base; simp; omega) _ rfl ?_
 intro g cap w' o1 o2 o3 o4
 rw [svals_push] at o1
 have hblk : ∀ {q : Nat} {f : Nat → Int}, wr.heap[q]? = some (.cells (vals m f).toArray 2 (0, 0)) → v.ownBlock ≠ some q → w'.heap[q]? = some (.cells (vals m f).toArray 2 (0, 0)) ∧ Value.ownBlock (.slice (some ⟨g, 0, none⟩) (n + 1) cap) ≠ some q := by
  intro q f hq hv
  have hlt := heap_lt hq
  refine ⟨?_, fun e => ?_⟩
  ·rw [o2.block q (by simp; omega) (fun e => hv e.symm)]
   exact (Below.heap_alloc _ _ _ hlt).trans hq
  ·have e3 : g = q := by simpa [Value.ownBlock] using e
   rcases o3 with o3 | o3
   ·exact hv (by rw [o3, e3])
   ·simp at o3; omega
 refine h _ w' ⟨⟨_, fun k => if k < n then G k else g0, o1, fun j hj => ?_, fun i j hi hj hij => ?_⟩, ?_, Nat.le_trans (by have := hL.base; simp; omega) o2.size⟩
 ·by_cases hjn : j < n
  ·obtain ⟨e1, e2, e3, e4⟩ := h2 j hjn
   simp only [if_pos hjn]
   exact ⟨e1, (hblk e2 e3).1, (hblk e2 e3).2, e4⟩
  ·obtain rfl : j = n := by omega
   simp only [if_neg hjn]
   exact ⟨trivial, (hblk hr hap).1, (hblk hr hap).2, hB0⟩
 ·by_cases hin : i < n
  ·by_cases hjn : j < n
   ·simp only [if_pos hin, if_pos hjn]; exact h3 i j hin hjn hij
   ·simp only [if_pos hin, if_neg hjn]; exact hG0 i hin
  ·have hjn : j < n := by omega
   simp only [if_neg hin, if_pos hjn]
   exact fun e => hG0 j hjn e.symm
 ·refine (hL.below.alloc hL.base _).grown o2 (by have := hL.base; simp; omega) ?_
  intro k hk
  exact (h1.lt k hk).1
structure RwsAt (B : Nat) (w0 w : World) (L cm : Nat) (G : Nat → Nat) (n m : Nat) (F : Nat → Nat → Int) : Prop where
  list : ∃ cur : Array Value, w.heap[L]? = some (.cells cur 22 (0, 0)) ∧ ∀ k, k < n → cur[k]? = some (.slice (some ⟨G k, 0, none⟩) m m)
  row : ∀ k, k < n → w.heap[G k]? = some (.cells (vals m (F k)).toArray 2 (0, 0))
  far : ∀ i j, i < n → j < n → i ≠ j → G i ≠ G j
  off : ∀ k, k < n → G k ≠ L
  own : ∀ k, k < n → B ≤ G k
  ownL : B ≤ L
  below : Below B w0 w
  base : B ≤ w.heap.size
  cap : n ≤ cm
  cap2 : cm ≤ 9223372036854775807
theorem Rws.open {B : Nat} {w0 w : World} {v : Value} {n m : Nat} {F : Nat → Nat → Int} (h : Rws B w0 w v n m F) (h0 : 0 < n) : ∃ L cm G, v = .slice (some ⟨L, 0, none⟩) n cm ∧ RwsAt B w0 w L cm G n m F := by
  obtain ⟨S, G, ⟨h1, h2⟩, h3, h4⟩ := h.row
  rcases h2 with ⟨rfl, rfl⟩ | ⟨g, cap, cur, rfl, hb, hg, hn, hc, hs, ht⟩
  · omega
  · refine ⟨g, cap, G, rfl, ⟨⟨cur, hg, fun k hk => ?_⟩, fun k hk => (h3 k hk).2.1, h4, fun k hk e => ?_, fun k hk => (h3 k hk).2.2.2, hb, h.below, h.base, hn, hc⟩⟩
    · have e := svals_at (S := S) hk
      rw [← ht] at e
      have e4 : cur[k]? = some (S k) := by
        rw [List.getElem?_take] at e
        split at e
        · simpa using e
        · cases e
      rw [e4, (h3 k hk).1]
    · exact (h3 k hk).2.2.1 (by simp [Value.ownBlock, e])
variable {B : Nat} {w0 w w' : World} {L cm n m : Nat} {G : Nat → Nat} {F : Nat → Nat → Int}
theorem RwsAt.cellL (h : RwsAt B w0 w L cm G n m F) {k : Nat} (hk : k < n) : w.cell? ⟨L, k, none⟩ = some (.slice (some ⟨G k, 0, none⟩) m m) := by
  obtain ⟨cur, h1, h2⟩ := h.list
  simp [World.cell?, h1, h2 k hk]
theorem RwsAt.cell (h : RwsAt B w0 w L cm G n m F) {i j : Nat} (hi : i < n) (hj : j < m) : w.cell? ⟨G i, j, none⟩ = some (.int .i64 (F i j)) := by
  simp [World.cell?, h.row i hi, vals_at hj]
def put2 (F : Nat → Nat → Int) (i j : Nat) (x : Int) : Nat → Nat → Int := fun a b => if a = i ∧ b = j then x else F a b
end Mt
end Go.Proofs.YtlomfjacgomhdaaGreatDoor
namespace Go.Proofs.YtlomfjacgomhdaaGreatDoor
open Go.RowKit Vc Mt
namespace Mt
def Fst (w : World) (g m : Nat) (f : Nat → Int) : Prop := ∃ cur : Array Value, w.heap[g]? = some (.cells cur 2 (0, 0)) ∧ ∀ q, q < m → cur[q]? = some (.int .i64 (f q))
theorem Fst.lt {w : World} {g m : Nat} {f : Nat → Int} (h : Fst w g m f) : g < w.heap.size := by obtain ⟨c, h1, _⟩ := h; exact heap_lt h1
theorem Fst.of {w w' : World} {g m : Nat} {f : Nat → Int} (h : Fst w g m f) (e : w'.heap[g]? = w.heap[g]?) : Fst w' g m f := by obtain ⟨c, h1, h2⟩ := h; exact ⟨c, e.trans h1, h2⟩
theorem Fst.congr {w : World} {g m : Nat} {f f' : Nat → Int} (h : Fst w g m f) (e : ∀ q, q < m → f q = f' q) : Fst w g m f' := by
  obtain ⟨c, h1, h2⟩ := h
  exact ⟨c, h1, fun q hq => by rw [h2 q hq, e q hq]⟩
theorem Fst.set {w : World} {g m : Nat} {f : Nat → Int} (h : Fst w g m f) {j : Nat} (hj : j < m) (x : Int) : Fst (w.setCell ⟨g, j, none⟩ (.int .i64 x)) g m (fun q => if q = j then x else f q) := by
  obtain ⟨c, h1, h2⟩ := h
  refine ⟨_, heap_setCell_same w g j _ _ _ h1, fun q hq => ?_⟩
  have hlt : j < c.size := by
    rcases Nat.lt_or_ge j c.size with k | k
    · exact k
    · have := h2 j hj; rw [Array.getElem?_eq_none k] at this; cases this
  show _ = some (Value.int .i64 (if q = j then x else f q))
  rw [Array.getElem?_setIfInBounds]
  by_cases e : q = j
  · rw [if_pos e.symm, if_pos hlt, if_pos e]
  · rw [if_neg (fun h => e h.symm), if_neg e]; exact h2 q hq
theorem Fst.cell {w : World} {g m : Nat} {f : Nat → Int} (h : Fst w g m f) {j : Nat} (hj : j < m) : w.cell? ⟨g, j, none⟩ = some (.int .i64 (f j)) := by
  obtain ⟨c, h1, h2⟩ := h
  simp [World.cell?, h1, h2 j hj]
theorem Fst.free {w : World} {g m : Nat} {f : Nat → Int} (h : Fst w g m f) (j : Nat) : w.frozen? ⟨g, j, none⟩ = false := by
  obtain ⟨c, h1, h2⟩ := h
  exact frozen_of_row w g j _ _ h1
theorem own_open {B : Nat} {w0 w : World} {v : Value} {m : Nat} {z : Nat → Int} (h : Own B w0 w v m z) (hm : 0 < m) : ∃ g cap, v = .slice (some ⟨g, 0, none⟩) m cap ∧ B ≤ g ∧ m ≤ cap ∧ cap ≤ 9223372036854775807 ∧ Fst w g m z := by
  obtain ⟨h1, h2⟩ := h.row
  rcases h2 with ⟨rfl, rfl⟩ | ⟨g, cap, cur, rfl, hb, hg, hn, hc, hs, ht⟩
  · omega
  · refine ⟨g, cap, rfl, hb, hn, hc, cur, hg, fun q hq => ?_⟩
    have e := vals_at (z := z) hq
    rw [← ht] at e
    rw [List.getElem?_take] at e
    split at e
    · simpa using e
    · cases e
structure Rwc (B : Nat) (w0 w : World) (v : Value) (n m : Nat) (F : Nat → Nat → Int) : Prop where
  row : ∃ (S : Nat → Value) (G C : Nat → Nat), w.ownsRow B 22 1 v n (svals n S) ∧ (∀ j, j < n → S j = .slice (some ⟨G j, 0, none⟩) m (C j) ∧ Fst w (G j) m (F j) ∧ (m ≤ C j ∧ C j ≤ 9223372036854775807) ∧ v.ownBlock ≠ some (G j) ∧ B ≤ G j) ∧ ∀ i j, i < n → j < n → i ≠ j → G i ≠ G j
  below : Below B w0 w
  base : B ≤ w.heap.size
theorem Rwc.nil {B : Nat} {w0 w : World} (h : Below B w0 w) (hB : B ≤ w.heap.size) (m : Nat) (F : Nat → Nat → Int) : Rwc B w0 w (.slice none 0 0) 0 m F := ⟨⟨fun _ => undef, fun _ => 0, fun _ => 0, World.ownsRow_nil _ _ _ _, fun j hj => by omega, fun i j hi => by omega⟩, h, hB⟩
theorem Rwc.keep {B : Nat} {w0 w w' : World} {v : Value} {n m : Nat} {F : Nat → Nat → Int} (h : Rwc B w0 w v n m F) (b : Below w.heap.size w w') : Rwc B w0 w' v n m F := by
  obtain ⟨S, G, C, h1, h2, h3⟩ := h.row
  refine ⟨⟨S, G, C, row_keep h1 b, fun j hj => ?_, h3⟩, h.below.trans (b.mono h.base), Nat.le_trans h.base b.size⟩
  obtain ⟨e1, e2, e3, e4⟩ := h2 j hj
  exact ⟨e1, e2.of (b.block _ e2.lt), e3, e4⟩
theorem wpList_pushC {ops : Array Oper} {rest : List Oper} {o : Oper} {a : Act} {Q : Exit → Act → World → Prop} {wp wr : World} (hgd : o.guard = none) (s x : Operand)
  (ho : o.op = .call { callee := .builtin .append, args := #[s, x], argTypes := #[23, 23] }) (B : Nat) (w0 : World) (v : Value) (n m : Nat) (F : Nat → Nat → Int) (hs : a.eval s = v) (hL0 : Rwc B w0 wp v n m F) (hk : Below wp.heap.size wp wr) (hl : n ≤ 2000000)
  (g0 c0 : Nat) (hr : Fst wr g0 m (F n)) (hc0 : m ≤ c0 ∧ c0 ≤ 9223372036854775807) (hsz : wp.heap.size ≤ g0)
  (hx : a.eval x = .slice (some ⟨wr.heap.size, 0, none⟩) 1 1)
  (h : ∀ v' w', Rwc B w0 w' v' (n + 1) m F → wpList Tryz.prog ops Q rest (a.put o.dst v') w') : wpList Tryz.prog ops Q (o :: rest) a (wr.alloc (.cells #[.slice (some ⟨g0, 0, none⟩) m c0] 22)) := by
 obtain ⟨i0, hi, hz0, hz1, hz2⟩ := info_parts infoSl
 have hL := hL0.keep hk
 obtain ⟨S, G, C, h1', h2', h3⟩ := hL0.row
 have h1 := row_keep h1' hk
 have hG0 : ∀ j, j < n → G j ≠ g0 := fun j hj e => by have := (h2' j hj).2.1.lt; omega
 have hap : v.ownBlock ≠ some g0 := fun e => by have := (h1'.lt _ e).2; omega
 have hB0 : B ≤ g0 := Nat.le_trans hL0.base hsz
 refine wpList_append_lies _ hgd s x 23 ho B 22 i0 (.slice none 0 0) 1 24 Tryz.underlying23 hi hz0 hz1 hz2 rfl (by decide) v n (svals n S) hs (h1.alloc _) ⟨wr.heap.size, 0, none⟩ 1 1 [.slice (some ⟨g0, 0, none⟩) m c0] hx rfl (cell_one_new _ _ _) (by intro u hu; simp at hu; subst hu; rfl) (by omega) (by unfold maxLen; omega) (by omega) (by have := hL.base; simp; omega) _ rfl ?_
 intro g cap w' o1 o2 o3 o4
 rw [svals_push] at o1
 have hblk : ∀ {q : Nat} {f : Nat → Int}, Fst wr q m f → v.ownBlock ≠ some q → Fst w' q m f ∧ Value.ownBlock (.slice (some ⟨g, 0, none⟩) (n + 1) cap) ≠ some q := by
  intro q f hq hv
  have hlt := hq.lt
  refine ⟨hq.of ?_, fun e => ?_⟩
  ·rw [o2.block q (by simp; omega) (fun e => hv e.symm)]
   exact Below.heap_alloc _ _ _ hlt
  ·have e3 : g = q := by simpa [Value.ownBlock] using e
   rcases o3 with o3 | o3
   ·exact hv (by rw [o3, e3])
   ·simp at o3; omega
 refine h _ w' ⟨⟨_, fun k => if k < n then G k else g0, fun k => if k < n then C k else c0, o1, fun j hj => ?_, fun i j hi hj hij => ?_⟩, ?_, Nat.le_trans (by have := hL.base; simp; omega) o2.size⟩
 ·by_cases hjn : j < n
  ·obtain ⟨e1, e2, e3, e4, e5⟩ := h2' j hjn
   have e2' := e2.of (hk.block _ e2.lt)
   simp only [if_pos hjn]
   exact ⟨e1, (hblk e2' e4).1, e3, (hblk e2' e4).2, e5⟩
  ·obtain rfl : j = n := by omega
   simp only [if_neg hjn]
   exact ⟨trivial, (hblk hr hap).1, hc0, (hblk hr hap).2, hB0⟩
 ·by_cases hin : i < n
  ·by_cases hjn : j < n
   ·simp only [if_pos hin, if_pos hjn]; exact h3 i j hin hjn hij
   ·simp only [if_pos hin, if_neg hjn]; exact hG0 i hin
  ·have hjn : j < n := by omega
   simp only [if_neg hin, if_pos hjn]
   exact fun e => hG0 j hjn e.symm
 ·refine (hL.below.alloc hL.base _).grown o2 (by have := hL.base; simp; omega) ?_
  intro k hk
  exact (h1.lt k hk).1
structure RwcAt (B : Nat) (w0 w : World) (L cm : Nat) (G C : Nat → Nat) (n m : Nat) (F : Nat → Nat → Int) : Prop where
  list : ∃ cur : Array Value, w.heap[L]? = some (.cells cur 22 (0, 0)) ∧ ∀ k, k < n → cur[k]? = some (.slice (some ⟨G k, 0, none⟩) m (C k))
  row : ∀ k, k < n → Fst w (G k) m (F k)
  room : ∀ k, k < n → m ≤ C k ∧ C k ≤ 9223372036854775807
  far : ∀ i j, i < n → j < n → i ≠ j → G i ≠ G j
  off : ∀ k, k < n → G k ≠ L
  own : ∀ k, k < n → B ≤ G k
  ownL : B ≤ L
  below : Below B w0 w
  base : B ≤ w.heap.size
  cap : n ≤ cm
  cap2 : cm ≤ 9223372036854775807
theorem Rwc.open {B : Nat} {w0 w : World} {v : Value} {n m : Nat} {F : Nat → Nat → Int} (h : Rwc B w0 w v n m F) (h0 : 0 < n) : ∃ L cm G C, v = .slice (some ⟨L, 0, none⟩) n cm ∧ RwcAt B w0 w L cm G C n m F := by
  obtain ⟨S, G, C, ⟨h1, h2⟩, h3, h4⟩ := h.row
  rcases h2 with ⟨rfl, rfl⟩ | ⟨g, cap, cur, rfl, hb, hg, hn, hc, hs, ht⟩
  · omega
  · refine ⟨g, cap, G, C, rfl, ⟨⟨cur, hg, fun k hk => ?_⟩, fun k hk => (h3 k hk).2.1, fun k hk => (h3 k hk).2.2.1, h4, fun k hk e => ?_, fun k hk => (h3 k hk).2.2.2.2, hb, h.below, h.base, hn, hc⟩⟩
    · have e := svals_at (S := S) hk
      rw [← ht] at e
      have e4 : cur[k]? = some (S k) := by
        rw [List.getElem?_take] at e
        split at e
        · simpa using e
        · cases e
      rw [e4, (h3 k hk).1]
    · exact (h3 k hk).2.2.2.1 (by simp [Value.ownBlock, e])
section
variable {B : Nat} {w0 w w' : World} {L cm n m : Nat} {G C : Nat → Nat} {F : Nat → Nat → Int}
theorem RwcAt.cellL (h : RwcAt B w0 w L cm G C n m F) {k : Nat} (hk : k < n) : w.cell? ⟨L, k, none⟩ = some (.slice (some ⟨G k, 0, none⟩) m (C k)) := by
  obtain ⟨cur, h1, h2⟩ := h.list
  simp [World.cell?, h1, h2 k hk]
theorem RwcAt.cell (h : RwcAt B w0 w L cm G C n m F) {i j : Nat} (hi : i < n) (hj : j < m) : w.cell? ⟨G i, j, none⟩ = some (.int .i64 (F i j)) := (h.row i hi).cell hj
theorem RwcAt.free (h : RwcAt B w0 w L cm G C n m F) {i : Nat} (hi : i < n) (j : Nat) : w.frozen? ⟨G i, j, none⟩ = false := (h.row i hi).free j
theorem RwcAt.congr {F' : Nat → Nat → Int} (h : RwcAt B w0 w L cm G C n m F) (e : ∀ i j, i < n → j < m → F i j = F' i j) : RwcAt B w0 w L cm G C n m F' :=
  ⟨h.list, fun k hk => (h.row k hk).congr (fun j hj => e k j hk hj), h.room, h.far, h.off, h.own, h.ownL, h.below, h.base, h.cap, h.cap2⟩
theorem RwcAt.set (h : RwcAt B w0 w L cm G C n m F) {i j : Nat} (hi : i < n) (hj : j < m) (x : Int) : RwcAt B w0 (w.setCell ⟨G i, j, none⟩ (.int .i64 x)) L cm G C n m (put2 F i j x) := by
  obtain ⟨cur, h1, h2⟩ := h.list
  refine ⟨⟨cur, (heap_setCell_other w _ L _ (fun e => h.off i hi e.symm)).trans h1, h2⟩, fun k hk => ?_, h.room, h.far, h.off, h.own, h.ownL, h.below.setCell (h.own i hi) _, by simp [h.base], h.cap, h.cap2⟩
  by_cases e : k = i
  · subst e
    refine ((h.row k hk).set hj x).congr fun q _ => ?_
    unfold put2
    by_cases e : q = j
    · rw [if_pos e, if_pos ⟨rfl, e⟩]
    · rw [if_neg e, if_neg (fun h => e h.2)]
  · refine ((h.row k hk).of (heap_setCell_other w _ (G k) _ (h.far k i hk hi e))).congr fun q _ => ?_
    unfold put2
    rw [if_neg (fun h => e h.1)]
theorem RwcAt.grid (h : RwcAt B w0 w L cm G C n m F) : Grid w (some ⟨L, 0, none⟩) n cm m F := by
  refine ⟨fun k => some ⟨G k, 0, none⟩, C, ⟨h.cap, h.cap2, fun j hj => ⟨_, rfl, ?_⟩⟩, fun k hk => ⟨(h.room k hk).1, (h.room k hk).2, fun j hj => ⟨_, rfl, ?_⟩⟩⟩
  · rw [Addr.add_lit, Nat.zero_add]; exact h.cellL hj
  · rw [Addr.add_lit, Nat.zero_add]; exact h.cell hk hj
end
end Mt
end Go.Proofs.YtlomfjacgomhdaaGreatDoor
namespace Go.Proofs.YtlomfjacgomhdaaGreatDoor
open Go.RowKit Vc Mt St Ld
namespace Ls
theorem rowBut {P : Nat → Prop} {a b : World} {B : Nat} {t : TypeId} {s : Nat} {v : Value} {n : Nat} {xs : List Value} (h : a.ownsRow B t s v n xs) (k : But P a b) (hx : ∀ g, v.ownBlock = some g → ¬ P g) : b.ownsRow B t s v n xs := by
  obtain ⟨h1, h2⟩ := h
  refine ⟨h1, ?_⟩
  rcases h2 with h2 | ⟨g, cap, cur, rfl, hb, hg, hn, hc, hs, ht⟩
  · exact Or.inl h2
  · refine Or.inr ⟨g, cap, cur, rfl, hb, ?_, hn, hc, hs, ht⟩
    have hlt : g < a.heap.size := by
      rcases Nat.lt_or_ge g a.heap.size with q | q
      · exact q
      · rw [Array.getElem?_eq_none q] at hg; cases hg
    exact (k.block g hlt (hx g rfl)).trans hg
theorem but_grown {w w' : World} {row : Option Nat} (g : w.grownBy w' row) : But (fun b => row = some b) w w' :=
  ⟨g.os, g.tape, g.output, g.size, fun k hk hp => g.block k hk (fun e => hp e.symm)⟩
structure Sts (o : Nat) (w : World) (vX vP : Value) (a b m : Nat) (X : Nat → Int) (P : Nat → Nat → Int) : Prop where
  x : w.ownsRow o 2 1 vX a (vals a X)
  p : ∃ S, w.ownsRow o 22 1 vP b (svals b S) ∧ ∀ j, j < b → ∃ r c, S j = .slice r m c ∧ Sl w r m c (P j) ∧ ∀ x, r = some x → vP.ownBlock ≠ some x.block ∧ vX.ownBlock ≠ some x.block ∧ o ≤ x.block
  ap : ∀ q, vX.ownBlock = some q → vP.ownBlock ≠ some q
  le : o ≤ w.heap.size
theorem Sts.nil {o : Nat} {w : World} (h : o ≤ w.heap.size) (m : Nat) (X : Nat → Int) (P : Nat → Nat → Int) : Sts o w (.slice none 0 0) (.slice none 0 0) 0 0 m X P :=
  ⟨World.ownsRow_nil _ _ _ _, ⟨fun _ => undef, World.ownsRow_nil _ _ _ _, fun j hj => by omega⟩, fun q e => (by cases e), h⟩
theorem Sts.keep {o : Nat} {w w' : World} {vX vP : Value} {a b m : Nat} {X : Nat → Int} {P : Nat → Nat → Int} (h : Sts o w vX vP a b m X P) (k : Below w.heap.size w w') : Sts o w' vX vP a b m X P := by
  obtain ⟨S, h1, h2⟩ := h.p
  refine ⟨row_keep h.x k, ⟨S, row_keep h1 k, fun j hj => ?_⟩, h.ap, Nat.le_trans h.le k.size⟩
  obtain ⟨r, c, e1, e2, e3⟩ := h2 j hj
  exact ⟨r, c, e1, e2.keep k, e3⟩
theorem Sts.put {o g : Nat} {w w' : World} {vX vP : Value} {a b m : Nat} {X : Nat → Int} {P : Nat → Nat → Int} (h : Sts o w vX vP a b m X P) (hg : g < o) (k : But (· = g) w w') : Sts o w' vX vP a b m X P := by
  obtain ⟨S, h1, h2⟩ := h.p
  refine ⟨rowBut h.x k (fun q e e2 => by have := (h.x.lt q e).1; omega), ⟨S, rowBut h1 k (fun q e e2 => by have := (h1.lt q e).1; omega), fun j hj => ?_⟩, h.ap, Nat.le_trans h.le k.size⟩
  obtain ⟨r, c, e1, e2, e3⟩ := h2 j hj
  exact ⟨r, c, e1, slBut e2 k (fun x hx e => by have := (e3 x hx).2.2; omega), e3⟩
theorem Sts.sl {o : Nat} {w : World} {vX vP : Value} {a b m : Nat} {X : Nat → Int} {P : Nat → Nat → Int} (h : Sts o w vX vP a b m X P) : ∃ ao ca, vX = .slice ao a ca ∧ Sl w ao a ca X :=
  Own.sl (B := o) (w0 := w) ⟨h.x, Below.refl _ _, h.le⟩
theorem sl_lt {w : World} {ao : Option Addr} {n ca : Nat} {z : Nat → Int} (h : Sl w ao n ca z) (hn : 0 < n) : ∀ x, ao = some x → x.block < w.heap.size := fun x hx => by
  obtain ⟨y, hy, hc⟩ := h.at' 0 hn
  rw [hx] at hy
  cases hy
  have hlt := World.block_lt_of_cell? w _ hc
  rw [addr_block] at hlt
  exact hlt
section
variable {ops : Array Oper} {rest : List Oper} {op : Oper} {ac : Act} {Q : Exit → Act → World → Prop} {wr : World}
theorem pushX (hgd : op.guard = none) (s x : Operand)
    (ho : op.op = .call { callee := .builtin .append, args := #[s, x], argTypes := #[22, 22] }) (o : Nat) (vX vP : Value) (a b m : Nat) (X : Nat → Int) (P : Nat → Nat → Int) (hs : ac.eval s = vX) (hL : Sts o wr vX vP a b m X P) (hm : 0 < m) (hl : a ≤ 2000000) (y : Int) (hy : y = X a)
    (hx : ac.eval x = .slice (some ⟨wr.heap.size, 0, none⟩) 1 1)
    (h : ∀ v' w', Sts o w' v' vP (a + 1) b m X P → But (fun q => o ≤ q) wr w' → wpList Tryz.prog ops Q rest (ac.put op.dst v') w') : wpList Tryz.prog ops Q (op :: rest) ac (wr.alloc (.cells #[.int .i64 y] 2)) := by
  obtain ⟨i0, hi, hz0, hz1, hz2⟩ := info_parts infoI64
  subst hy
  refine wpList_append_lies _ hgd s x 22 ho o 2 i0 (.int .i64 0) 1 8 Tryz.underlying22 hi hz0 hz1 hz2 rfl (by decide) vX a (vals a X) hs (hL.x.alloc _) ⟨wr.heap.size, 0, none⟩ 1 1 [.int .i64 (X a)] hx rfl (cell_one_new _ _ _) (by intro u hu; simp at hu; subst hu; rfl) (by omega) (by unfold maxLen; omega) (by omega) (by have := hL.le; simp; omega) _ rfl ?_
  intro g cap w' o1 o2 o3 o4
  rw [vals_push] at o1
  have bb : But (fun q => vX.ownBlock = some q) wr w' := (but_of (below_al (Below.refl _ wr) _)).trans (but_grown o2)
  obtain ⟨S, p1, p2⟩ := hL.p
  have hg : ∀ q, q < wr.heap.size → vX.ownBlock ≠ some q → Value.ownBlock (.slice (some ⟨g, 0, none⟩) (a + 1) cap) ≠ some q := fun q hq e1 e2 => by
    have e3 : g = q := by simpa [Value.ownBlock] using e2
    rcases o3 with o3 | o3
    · exact e1 (by rw [o3, e3])
    · simp at o3; omega
  refine h _ w' ⟨o1, ⟨S, rowBut p1 bb (fun q e e2 => hL.ap q e2 e), fun j hj => ?_⟩, fun q e e2 => ?_, Nat.le_trans hL.le bb.size⟩ (bb.mono fun q e => (hL.x.lt q e).1)
  · obtain ⟨r, c, e1, e2, e3⟩ := p2 j hj
    exact ⟨r, c, e1, slBut e2 bb (fun x hx => (e3 x hx).2.1), fun x hx => ⟨(e3 x hx).1, hg _ (sl_lt e2 hm x hx) (e3 x hx).2.1, (e3 x hx).2.2⟩⟩
  · exact hg q (p1.lt q e2).2 (fun e' => hL.ap q e' e2) e
end
end Ls
end Go.Proofs.YtlomfjacgomhdaaGreatDoor
namespace Go.Proofs.YtlomfjacgomhdaaGreatDoor
open Go.RowKit Vc Mt St Ld
namespace Ls
structure Tws (o : Nat) (w : World) (vK vB : Value) (nk nb mk mb : Nat) (K B : Nat → Nat → Int) : Prop where
  k : ∃ S, w.ownsRow o 22 1 vK nk (svals nk S) ∧ ∀ j, j < nk → ∃ r c, S j = .slice r mk c ∧ Sl w r mk c (K j) ∧ ∀ x, r = some x → vK.ownBlock ≠ some x.block ∧ vB.ownBlock ≠ some x.block ∧ o ≤ x.block
  b : ∃ S, w.ownsRow o 22 1 vB nb (svals nb S) ∧ ∀ j, j < nb → ∃ r c, S j = .slice r mb c ∧ Sl w r mb c (B j) ∧ ∀ x, r = some x → vK.ownBlock ≠ some x.block ∧ vB.ownBlock ≠ some x.block ∧ o ≤ x.block
  ap : ∀ q, vK.ownBlock = some q → vB.ownBlock ≠ some q
  le : o ≤ w.heap.size
theorem Tws.nil {o : Nat} {w : World} (h : o ≤ w.heap.size) (mk mb : Nat) (K B : Nat → Nat → Int) : Tws o w (.slice none 0 0) (.slice none 0 0) 0 0 mk mb K B :=
  ⟨⟨fun _ => undef, World.ownsRow_nil _ _ _ _, fun j hj => by omega⟩, ⟨fun _ => undef, World.ownsRow_nil _ _ _ _, fun j hj => by omega⟩, fun q e => (by cases e), h⟩
theorem Tws.swap {o : Nat} {w : World} {vK vB : Value} {nk nb mk mb : Nat} {K B : Nat → Nat → Int} (h : Tws o w vK vB nk nb mk mb K B) : Tws o w vB vK nb nk mb mk B K := by
  obtain ⟨S, k1, k2⟩ := h.k
  obtain ⟨T, b1, b2⟩ := h.b
  refine ⟨⟨T, b1, fun j hj => ?_⟩, ⟨S, k1, fun j hj => ?_⟩, fun q e e2 => h.ap q e2 e, h.le⟩
  · obtain ⟨r, c, e1, e2, e3⟩ := b2 j hj
    exact ⟨r, c, e1, e2, fun x hx => ⟨(e3 x hx).2.1, (e3 x hx).1, (e3 x hx).2.2⟩⟩
  · obtain ⟨r, c, e1, e2, e3⟩ := k2 j hj
    exact ⟨r, c, e1, e2, fun x hx => ⟨(e3 x hx).2.1, (e3 x hx).1, (e3 x hx).2.2⟩⟩
theorem Tws.keep {o : Nat} {w w' : World} {vK vB : Value} {nk nb mk mb : Nat} {K B : Nat → Nat → Int} (h : Tws o w vK vB nk nb mk mb K B) (kk : Below w.heap.size w w') : Tws o w' vK vB nk nb mk mb K B := by
  obtain ⟨S, k1, k2⟩ := h.k
  obtain ⟨T, b1, b2⟩ := h.b
  refine ⟨⟨S, row_keep k1 kk, fun j hj => ?_⟩, ⟨T, row_keep b1 kk, fun j hj => ?_⟩, h.ap, Nat.le_trans h.le kk.size⟩
  · obtain ⟨r, c, e1, e2, e3⟩ := k2 j hj
    exact ⟨r, c, e1, e2.keep kk, e3⟩
  · obtain ⟨r, c, e1, e2, e3⟩ := b2 j hj
    exact ⟨r, c, e1, e2.keep kk, e3⟩
theorem Tws.gridK {o : Nat} {w : World} {vK vB : Value} {nk nb mk mb : Nat} {K B : Nat → Nat → Int} (h : Tws o w vK vB nk nb mk mb K B) : ∃ lo cm, vK = .slice lo nk cm ∧ Grid w lo nk cm mk K := by
  obtain ⟨S, h1, h2⟩ := h.k
  have hL : Lst o w w vK nk mk K := ⟨⟨S, h1, fun k hk => by obtain ⟨r, c, e1, e2, e3⟩ := h2 k hk; exact ⟨r, c, e1, e2, fun x hx => (e3 x hx).1⟩⟩, Below.refl _ _, h.le⟩
  exact hL.grid
theorem Tws.gridB {o : Nat} {w : World} {vK vB : Value} {nk nb mk mb : Nat} {K B : Nat → Nat → Int} (h : Tws o w vK vB nk nb mk mb K B) : ∃ lo cm, vB = .slice lo nb cm ∧ Grid w lo nb cm mb B := h.swap.gridK
theorem Tws.apart {o : Nat} {w : World} {vK vB : Value} {nk nb mk mb : Nat} {K B : Nat → Nat → Int} (h : Tws o w vK vB nk nb mk mb K B) {ra : Option Addr} (hf : Fresh w.heap.size ra) : ∀ x, ra = some x → vK.ownBlock ≠ some x.block ∧ vB.ownBlock ≠ some x.block ∧ o ≤ x.block := by
  intro x hx
  have h3 := hf x hx
  have h4 := h.le
  obtain ⟨S, k1, _⟩ := h.k
  obtain ⟨T, b1, _⟩ := h.b
  exact ⟨fun e => by have := (k1.lt _ e).2; omega, fun e => by have := (b1.lt _ e).2; omega, by omega⟩
section
variable {ops : Array Oper} {rest : List Oper} {op : Oper} {ac : Act} {Q : Exit → Act → World → Prop} {wr : World}
theorem pushK (hgd : op.guard = none) (s x : Operand)
  (ho : op.op = .call { callee := .builtin .append, args := #[s, x], argTypes := #[23, 23] }) (o : Nat) (vK vB : Value) (nk nb mk mb : Nat) (K B : Nat → Nat → Int) (hs : ac.eval s = vK) (hL : Tws o wr vK vB nk nb mk mb K B) (hk : 0 < mk) (hb : 0 < mb) (hl : nk ≤ 2000000)
  (ra : Option Addr) (rc : Nat) (hr : Sl wr ra mk rc (K nk)) (hra : ∀ x, ra = some x → vK.ownBlock ≠ some x.block ∧ vB.ownBlock ≠ some x.block ∧ o ≤ x.block)
  (hx : ac.eval x = .slice (some ⟨wr.heap.size, 0, none⟩) 1 1)
  (h : ∀ v' w', Tws o w' v' vB (nk + 1) nb mk mb K B → But (fun q => o ≤ q) wr w' → Sl w' ra mk rc (K nk) → wpList Tryz.prog ops Q rest (ac.put op.dst v') w') : wpList Tryz.prog ops Q (op :: rest) ac (wr.alloc (.cells #[.slice ra mk rc] 22)) := by
 obtain ⟨i0, hi, hz0, hz1, hz2⟩ := info_parts infoSl
 obtain ⟨S, p1, p2⟩ := hL.k
 obtain ⟨T, q1, q2⟩ := hL.b
 refine wpList_append_lies _ hgd s x 23 ho o 22 i0 (.slice none 0 0) 1 24 Tryz.underlying23 hi hz0 hz1 hz2 rfl (by decide) vK nk (svals nk S) hs (p1.alloc _) ⟨wr.heap.size, 0, none⟩ 1 1 [.slice ra mk rc] hx rfl (cell_one_new _ _ _) (by intro u hu; simp at hu; subst hu; rfl) (by omega) (by unfold maxLen; omega) (by omega) (by have := hL.le; simp; omega) _ rfl ?_
 intro g cap w' o1 o2 o3 o4
 rw [svals_push] at o1
 have bb : But (fun q => vK.ownBlock = some q) wr w' := (but_of (below_al (Below.refl _ wr) _)).trans (but_grown o2)
 have hg : ∀ q, q < wr.heap.size → vK.ownBlock ≠ some q → Value.ownBlock (.slice (some ⟨g, 0, none⟩) (nk + 1) cap) ≠ some q := fun q hq e1 e2 => by
  have e3 : g = q := by simpa [Value.ownBlock] using e2
  rcases o3 with o3 | o3
  ·exact e1 (by rw [o3, e3])
  ·simp at o3; omega
 have key : ∀ {m : Nat} {r : Option Addr} {c : Nat} {z : Nat → Int}, 0 < m → Sl wr r m c z → (∀ x, r = some x → vK.ownBlock ≠ some x.block ∧ vB.ownBlock ≠ some x.block ∧ o ≤ x.block) → Sl w' r m c z ∧ ∀ x, r = some x → Value.ownBlock (.slice (some ⟨g, 0, none⟩) (nk + 1) cap) ≠ some x.block ∧ vB.ownBlock ≠ some x.block ∧ o ≤ x.block := fun hm hs hx =>
  ⟨slBut hs bb (fun x e => (hx x e).1), fun x e => ⟨hg _ (sl_lt hs hm x e) (hx x e).1, (hx x e).2.1, (hx x e).2.2⟩⟩
 refine h _ w' ⟨⟨_, o1, fun j hj => ?_⟩, ⟨T, rowBut q1 bb (fun q e e2 => hL.ap q e2 e), fun j hj => ?_⟩, fun q e e2 => hg q (q1.lt q e2).2 (fun e' => hL.ap q e' e2) e, Nat.le_trans hL.le bb.size⟩ (bb.mono fun q e => (p1.lt q e).1) (key hk hr hra).1
 ·by_cases hjb : j < nk
  ·obtain ⟨r, c, e1, e2, e3⟩ := p2 j hjb
   obtain ⟨e4, e5⟩ := key hk e2 e3
   exact ⟨r, c, by simp only [if_pos hjb]; exact e1, e4, e5⟩
  ·obtain rfl : j = nk := by omega
   obtain ⟨e4, e5⟩ := key hk hr hra
   exact ⟨ra, rc, by simp only [if_neg hjb], e4, e5⟩
 ·obtain ⟨r, c, e1, e2, e3⟩ := q2 j hj
  obtain ⟨e4, e5⟩ := key hb e2 e3
  exact ⟨r, c, e1, e4, e5⟩
end
end Ls
end Go.Proofs.YtlomfjacgomhdaaGreatDoor
