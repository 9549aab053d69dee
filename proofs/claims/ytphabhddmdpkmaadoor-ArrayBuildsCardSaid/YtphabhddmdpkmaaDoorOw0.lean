/-
  A row of Rats that the call itself makes grow by append: its block holds no limb, whatever lies in its spare room.
-/
import Derived.Test.YtphabhddmdpkmaaDoorAr3
namespace Go.Proofs.YtphabhddmdpkmaaDoor
open Go.RowKit

/-- Every cell of the block that a slice owns is of that kind. -/
def Pure (p : Value → Prop) (w : World) (v : Value) : Prop := ∀ g, v.ownBlock = some g → ∀ cur t fr, w.heap[g]? = some (.cells cur t fr) → ∀ u ∈ cur.toList, p u
theorem Pure.nil (p : Value → Prop) (w : World) : Pure p w (.slice none 0 0) := fun g h => by simp [Value.ownBlock] at h
theorem Pure.below {p : Value → Prop} {w w' : World} {v : Value} (h : Pure p w v) (hb : Below w.heap.size w w') (hv : ∀ g, v.ownBlock = some g → g < w.heap.size) : Pure p w' v := fun g hg cur t fr hc => h g hg cur t fr ((hb.block g (hv g hg)).symm.trans hc)
theorem mem_zeroCells {p : Value → Prop} {z : Array Value} (h : ∀ u ∈ z.toList, p u) (n : Nat) : ∀ u ∈ (Builtin.zeroCells z n).toList, p u := by
  intro u hu
  unfold Builtin.zeroCells at hu
  rw [Array.mem_toList_iff, Array.mem_map] at hu
  obtain ⟨i, hi, rfl⟩ := hu
  rw [Array.mem_range] at hi
  have h0 : 0 < z.size := by
    rcases Nat.eq_zero_or_pos z.size with h0 | h0
    · rw [h0, Nat.mul_zero] at hi; omega
    · exact h0
  have hlt : i % z.size < z.size := Nat.mod_lt _ h0
  rw [getElem!_pos z (i % z.size) hlt]
  exact h _ (by rw [Array.mem_toList_iff]; exact Array.getElem_mem hlt)

/-- append to such a row: it stays one. -/
theorem append_pure {P : Program} (p : Value → Prop) (w : World) (base : Nat) (t ty e : TypeId) (i : TypeInfo) (z : Value) (size bytes : Nat) (ht : P.underlying t = some (.slice e)) (hi : P.info? e = some i) (hz : i.zero = some z)
    (hsize : i.size = size) (hby : i.bytes = bytes)
    (v : Value) (n : Nat) (xs : List Value) (hown : w.ownsRow base e size v n xs) (hv : Pure p w v) (hzp : ∀ u ∈ z.cells.toList, p u)
    (a : Addr) (m c : Nat) (news : List Value) (hl : news.length = m * size) (hnews : ∀ j u, news[j]? = some u → w.cell? (a.add j) = some u) (h1 : ∀ u ∈ news, u.oneCell' = true) (hnp : ∀ u ∈ news, p u)
    (hm : 0 < m) (h63 : n + m ≤ maxLen) (hbytes : (n + m) * bytes ≤ 140737488355328) {v' : Value} {w' : World} (hr : (Builtin.append_ #[t, t] ty #[v, .slice (some a) m c]).run P w = .ok v' w') : Pure p w' v' := by
  subst hsize
  subst hby
  have hsmall : n + m ≤ 9223372036854775807 := by simp only [maxLen] at h63; omega
  rcases hown.2 with ⟨rfl, rfl⟩ | ⟨g, cap, cur, rfl, hbg, hg, hnc, hcm, hcs, htake⟩
  · have hr2 := run_append_nil (P := P) w t ty e i z ht hi hz a m c news hl hnews hm (by omega) (by have hb := hbytes; simp only [Nat.zero_add] at hb; omega)
    rw [hr] at hr2
    injection hr2 with e1 e2
    subst e1 e2
    intro g' hg' cur t' fr hc u hu
    obtain rfl : w.heap.size = g' := by simpa [Value.ownBlock] using hg'
    rw [show w.heap.size = w.drew.heap.size from rfl, heap_alloc_new] at hc
    injection hc with hc; injection hc with hc _ _
    subst hc
    rw [Array.toList_append, List.mem_append] at hu
    rcases hu with hu | hu
    · exact hnp u (by simpa using hu)
    · exact mem_zeroCells hzp _ u hu
  · have hcur := hv g rfl cur e (0, 0) hg
    by_cases hroom : n + m ≤ cap
    · have hfit : n * i.size + news.length ≤ cur.size := by rw [hl, hcs, ← Nat.add_mul]; exact Nat.mul_le_mul_right _ hroom
      have hr2 := run_append_room (P := P) w t ty e i ht hi g n cap cur hg a m c news hl hnews h1 hroom hfit
      rw [hr] at hr2
      injection hr2 with e1 e2
      subst e1 e2
      intro g' hg' cur' t' fr hc u hu
      obtain rfl : g = g' := by simpa [Value.ownBlock] using hg'
      rw [setRow_heap w g cur _ e _ hg] at hc
      injection hc with hc; injection hc with hc _ _
      subst hc
      simp only [List.mem_append] at hu
      rcases hu with (hu | hu) | hu
      · exact hcur u (List.mem_of_mem_take hu)
      · exact hnp u hu
      · exact hcur u (List.mem_of_mem_drop hu)
    · have holds : ∀ j u, xs[j]? = some u → w.cell? ((⟨g, 0, none⟩ : Addr).add j) = some u := hown.cells (g := g) rfl
      have hr2 := run_append_grow (P := P) w t ty e i z ht hi hz ⟨g, 0, none⟩ n cap xs hown.1 holds a m c news hl hnews (by omega) (by omega) (growslice_fits (by omega) hbytes)
      rw [hr] at hr2
      injection hr2 with e1 e2
      subst e1 e2
      intro g' hg' cur' t' fr hc u hu
      obtain rfl : w.heap.size = g' := by simpa [Value.ownBlock] using hg'
      rw [show w.heap.size = w.drew.heap.size from rfl, heap_alloc_new] at hc
      injection hc with hc; injection hc with hc _ _
      subst hc
      simp only [Array.toList_append, List.mem_append] at hu
      rcases hu with (hu | hu) | hu
      · refine hcur u ?_
        rw [← htake] at hu
        exact List.mem_of_mem_take (by simpa using hu)
      · exact hnp u (by simpa using hu)
      · exact mem_zeroCells hzp _ u hu

theorem wpList_append_pure {P : Program} (p : Value → Prop) (w : World) {ops : Array Oper} {rest : List Oper} {o : Oper} {a : Act} {Q : Exit → Act → World → Prop} (hgd : o.guard = none) (s x : Operand) (t : TypeId)
    (ho : o.op = .call { callee := .builtin .append, args := #[s, x], argTypes := #[t, t] })
    (base : Nat) (e : TypeId) (i : TypeInfo) (z : Value) (size bytes : Nat) (ht : P.underlying t = some (.slice e)) (hi : P.info? e = some i) (hz : i.zero = some z)
    (hsize : i.size = size) (hby : i.bytes = bytes) (hzs : z.cells.size = size) (hsz : 0 < size)
    (v : Value) (n : Nat) (xs : List Value) (hs : a.eval s = v) (hown : w.ownsRow base e size v n xs) (hv : Pure p w v) (hzp : ∀ u ∈ z.cells.toList, p u)
    (ad : Addr) (m c : Nat) (news : List Value) (hx : a.eval x = .slice (some ad) m c) (hl : news.length = m * size) (hnews : ∀ j u, news[j]? = some u → w.cell? (ad.add j) = some u) (h1 : ∀ u ∈ news, u.oneCell' = true) (hnp : ∀ u ∈ news, p u)
    (hm : 0 < m) (h63 : n + m ≤ maxLen) (hbytes : (n + m) * bytes ≤ 140737488355328) (hbase : base ≤ w.heap.size)
    (h : ∀ v' w', w'.ownsRow base e size v' (n + m) (xs ++ news) → w.grownBy w' v.ownBlock → Pure p w' v' → wpList P ops Q rest (a.put o.dst v') w') : wpList P ops Q (o :: rest) a w := by
  refine wpList_plain hgd fun _ hK => ?_
  obtain ⟨v', w', hr, h2, h3, _⟩ := run_append_own (P := P) w base t o.type e i z size bytes ht hi hz hsize hby hzs hsz v n xs hown ad m c news hl hnews h1 h63 hbytes hbase
  have hp := append_pure p w base t o.type e i z size bytes ht hi hz hsize hby v n xs hown hv hzp ad m c news hl hnews h1 hnp hm h63 hbytes hr
  unfold Oper.wp execOp
  simp only [ho, resolve, invoke, builtin, Sem.run_bind, Sem.run_pure, Result.andThen_ok, List.map_toArray, List.map_cons, List.map_nil, hs, hx, hr]
  exact hK _ _ (h v' w' h2 h3 hp)

/-- No limb. -/
def NotLimb (u : Value) : Prop := ∀ z, u ≠ .int .u32 z
theorem Pure.noLimb {w : World} {v : Value} (h : Pure NotLimb w v) {g : Nat} (hg : v.ownBlock = some g) {cur : Array Value} {t : TypeId} (hc : w.heap[g]? = some (.cells cur t (0, 0))) : NoLimb w g := by
  intro o z hcell
  rw [cell_of_row w g o cur t (0, 0) hc] at hcell
  obtain ⟨hlt, he⟩ := Array.getElem?_eq_some_iff.1 hcell
  exact h g hg cur t (0, 0) hc _ (by rw [Array.mem_toList_iff]; exact Array.getElem_mem hlt) z he
/-- A row of Rats in the making. -/
def ROwn (w : World) (base : Nat) (v : Value) (k : Nat) (fP : Nat → Int) (fQ : Nat → Nat) : Prop :=
  ∃ xs, w.ownsRow base 32 3 v k xs ∧ Pure NotLimb w v ∧ ∀ j, j < k → ∃ a' n' c' m' a2' n2' c2', xs[j * 3]? = some (.slice a' n' c') ∧ xs[j * 3 + 1]? = some (.bool m') ∧ xs[j * 3 + 2]? = some (.slice a2' n2' c2') ∧ RatAt w a' n' c' m' a2' n2' c2' (fP j) (fQ j)
theorem ROwn.nil (w : World) (base : Nat) (fP : Nat → Int) (fQ : Nat → Nat) : ROwn w base (.slice none 0 0) 0 fP fQ := ⟨[], World.ownsRow_nil _ _ _ _, Pure.nil _ _, fun _ h => absurd h (Nat.not_lt_zero _)⟩
theorem ROwn.below {w w' : World} {base : Nat} {v : Value} {k : Nat} {fP : Nat → Int} {fQ : Nat → Nat} (h : ROwn w base v k fP fQ) (hb : Below w.heap.size w w') : ROwn w' base v k fP fQ := by
  obtain ⟨xs, h1, h2, h3⟩ := h
  refine ⟨xs, ?_, h2.below hb (fun g hg => (h1.lt g hg).2), fun j hj => ?_⟩
  · refine h1.kept (row := none) ⟨hb.os, hb.tape, hb.output, hb.size, fun k hk _ => hb.block k hk⟩ ?_
    cases v.ownBlock with
    | none => exact .inl rfl
    | some k => exact .inr (by simp)
  · obtain ⟨a', n', c', m', a2', n2', c2', e1, e2, e3, e4⟩ := h3 j hj
    exact ⟨a', n', c', m', a2', n2', c2', e1, e2, e3, e4.below hb⟩
theorem ROwn.slice {w : World} {base : Nat} {v : Value} {k : Nat} {fP : Nat → Int} {fQ : Nat → Nat} (h : ROwn w base v k fP fQ) : ∃ a c, v = .slice a k c ∧ RRow w a k c fP fQ := by
  obtain ⟨xs, h1, _, h3⟩ := h
  rcases h1.2 with ⟨rfl, rfl⟩ | ⟨g, cap, cur, rfl, _, hh, e1, e2, _, _⟩
  · exact ⟨none, 0, rfl, RRow.nought _ _ _ (Nat.zero_le _) _ _⟩
  · refine ⟨some ⟨g, 0, none⟩, cap, rfl, e1, e2, .inr ⟨g, 0, rfl, Row.lt (t := 32) hh, fun j hj => ?_⟩⟩
    have hc : ∀ i u, xs[i]? = some u → w.cell? ⟨g, 0 + i, none⟩ = some u := fun i u hu => by
      have := h1.cells (g := g) rfl i u hu
      rwa [show (⟨g, 0, none⟩ : Addr).add i = ⟨g, 0 + i, none⟩ by unfold Addr.add; split <;> simp_all] at this
    obtain ⟨a', n', c', m', a2', n2', c2', e1, e2, e3, e4⟩ := h3 j hj
    exact ⟨a', n', c', m', a2', n2', c2', hc _ _ e1, by rw [show 0 + j * 3 + 1 = 0 + (j * 3 + 1) by omega]; exact hc _ _ e2, by rw [show 0 + j * 3 + 2 = 0 + (j * 3 + 2) by omega]; exact hc _ _ e3, e4⟩
theorem RatAt.grown {w w' : World} {base : Nat} {v : Value} {k : Nat} {xs : List Value} (ho : w.ownsRow base 32 3 v k xs) (hp : Pure NotLimb w v) (hg : w.grownBy w' v.ownBlock) {a : Option Addr} {n c : Nat} {m : Bool} {a2 : Option Addr} {n2 c2 : Nat} {P : Int} {Q : Nat} (h : RatAt w a n c m a2 n2 c2 P Q) : RatAt w' a n c m a2 n2 c2 P Q := by
  rcases ho.2 with ⟨rfl, _⟩ | ⟨g, cap, cur, rfl, _, hh, _⟩
  · exact h.below ⟨hg.os, hg.tape, hg.output, hg.size, fun j hj => hg.block j hj (by simp [Value.ownBlock])⟩
  · exact h.away (hp.noLimb rfl hh) ⟨hg.size, fun j hj hl => hg.block j hl (fun e => hj (by simpa [Value.ownBlock] using e))⟩
theorem ROwn.step {w w' : World} {base : Nat} {v v' : Value} {k : Nat} {fP : Nat → Int} {fQ : Nat → Nat} {xs : List Value} {a : Option Addr} {n c : Nat} {m : Bool} {a2 : Option Addr} {n2 c2 : Nat} (ho : w.ownsRow base 32 3 v k xs) (hp : Pure NotLimb w v)
    (hx : ∀ j, j < k → ∃ a' n' c' m' a2' n2' c2', xs[j * 3]? = some (.slice a' n' c') ∧ xs[j * 3 + 1]? = some (.bool m') ∧ xs[j * 3 + 2]? = some (.slice a2' n2' c2') ∧ RatAt w a' n' c' m' a2' n2' c2' (fP j) (fQ j))
    (hr : RatAt w a n c m a2 n2 c2 (fP k) (fQ k)) (ho' : w'.ownsRow base 32 3 v' (k + 1) (xs ++ [.slice a n c, .bool m, .slice a2 n2 c2])) (hg : w.grownBy w' v.ownBlock) (hp' : Pure NotLimb w' v') : ROwn w' base v' (k + 1) fP fQ := by
  refine ⟨_, ho', hp', fun j hj => ?_⟩
  have hl := ho.1
  by_cases e : j = k
  · subst e
    refine ⟨a, n, c, m, a2, n2, c2, ?_, ?_, ?_, RatAt.grown ho hp hg hr⟩
    · rw [List.getElem?_append_right (by omega), hl, Nat.sub_self]; rfl
    · rw [List.getElem?_append_right (by omega), hl, Nat.add_sub_cancel_left]; rfl
    · rw [List.getElem?_append_right (by omega), hl, Nat.add_sub_cancel_left]; rfl
  · obtain ⟨a', n', c', m', a2', n2', c2', e1, e2, e3, e4⟩ := hx j (by omega)
    exact ⟨a', n', c', m', a2', n2', c2', by rw [List.getElem?_append_left (by omega)]; exact e1, by rw [List.getElem?_append_left (by omega)]; exact e2, by rw [List.getElem?_append_left (by omega)]; exact e3, RatAt.grown ho hp hg e4⟩

end Go.Proofs.YtphabhddmdpkmaaDoor
