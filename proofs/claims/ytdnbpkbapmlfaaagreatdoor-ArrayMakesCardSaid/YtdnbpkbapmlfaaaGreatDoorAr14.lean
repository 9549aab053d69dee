/-
  The document's layer 6: Text, Num, Int, Ints, by contract.
-/
import Derived.Test.YtdnbpkbapmlfaaaGreatDoorAr13
import Derived.Test.YtdnbpkbapmlfaaaGreatDoorRr1
namespace Go.Proofs.YtdnbpkbapmlfaaaGreatDoor
open Go.RowKit

/-- What answers a plain array. -/
def PlnTold (S : Nat → Int) (r : Nat) (ch : Bool) (g : Nat → Int) (tn : Nat) (fB : Nat → Bool) (fS fT : Nat → ByteArray) (nn : Nat) (w w' : World) (e : Ending) : Prop := ∃ cs, e = .returned (.agg cs) ∧ PlnAt w' cs S r ch g tn fB fS fT nn ∧ Below w.heap.size w w'
theorem res_pln {fn : Func} {p : Tmp} {tmps : Array Value} {w : World} {g : Nat} {cs : Array Value} (h : fn.results = #[.cell p 46]) (hp : tmps.getD p undef = .pointer (some ⟨g, 0, none⟩)) (hg : Row w g 46 cs) (hs : cs.size = 4) :
    (results fn tmps).run Tryz.prog w = .ok (.agg cs) w :=
  results_cell_row h tmps w g _ cs (0, 0) _ hp hg Tryz.underlying46 rfl (by rw [show (Tryz.prog.info? 46).map (·.size) = some 4 by kernel_rfl, hs])

theorem QRow.one (w : World) (b : Bool) (s t : ByteArray) (T : TypeId) : QRow (w.alloc (.cells #[.bool b, .string s, .string t] T)) (some ⟨w.heap.size, 0, none⟩) 1 1 (fun _ => b) (fun _ => s) (fun _ => t) := by
  have hR := Row.new w T #[.bool b, .string s, .string t]
  refine ⟨Nat.le_refl _, by unfold maxLen; omega, .inr ⟨_, 0, rfl, by simp, fun j hj => ?_⟩⟩
  obtain rfl : j = 0 := by omega
  exact ⟨hR.cell 0, hR.cell 1, hR.cell 2⟩

theorem pln4 : (Tryz.prog.info? 46).map (·.size) = some 4 := by kernel_rfl
/-- A plain array loaded, stored, as a whole. -/
theorem ld_pln {ops : Array Oper} {rest : List Oper} {o : Oper} {a : Act} {w : World} {Q : Exit → Act → World → Prop} (hgd : o.guard = none) (x : Operand) (ho : o.op = .load 46 x) (g : Nat) (hx : a.eval x = .pointer (some ⟨g, 0, none⟩))
    {sa : Option Addr} {sn sc : Nat} {ch : Bool} {ta : Option Addr} {tn tc : Nat} {na : Option Addr} {nn nc : Nat} (hg : Row w g 46 (plC sa sn sc ch ta tn tc na nn nc))
    (h : wpList Tryz.prog ops Q rest (a.put o.dst (.agg (plC sa sn sc ch ta tn tc na nn nc))) w) : wpList Tryz.prog ops Q (o :: rest) a w :=
  wpList_load_row hgd _ x ho g hx _ _ (0, 0) _ hg Tryz.underlying46 rfl pln4 h
theorem plC_one (sa : Option Addr) (sn sc : Nat) (ch : Bool) (ta : Option Addr) (tn tc : Nat) (na : Option Addr) (nn nc : Nat) : (plC sa sn sc ch ta tn tc na nn nc).all (·.oneCell') = true := by simp [plC, Value.oneCell']
theorem st_pln {ops : Array Oper} {rest : List Oper} {o : Oper} {a : Act} {w : World} {Q : Exit → Act → World → Prop} (hgd : o.guard = none) (x y : Operand) (ho : o.op = .store 46 x y) (g : Nat) (hx : a.eval x = .pointer (some ⟨g, 0, none⟩))
    (sa : Option Addr) (sn sc : Nat) (ch : Bool) (ta : Option Addr) (tn tc : Nat) (na : Option Addr) (nn nc : Nat) (hy : a.eval y = .agg (plC sa sn sc ch ta tn tc na nn nc)) {old : Array Value} (hg : Row w g 46 old) (ho2 : old.size = 4)
    (h : wpList Tryz.prog ops Q rest (a.put o.dst undef) (w.setRow g (plC sa sn sc ch ta tn tc na nn nc))) : wpList Tryz.prog ops Q (o :: rest) a w :=
  wpList_store_row hgd _ x y ho g _ hx hy _ old hg pln4 ho2 (plC_one _ _ _ _ _ _ _ _ _ _) h
/-- No text lies among the cells. -/
def NoStr (cs : Array Value) : Prop := ∀ (o : Nat) (z : ByteArray), cs[o]? ≠ some (.string z)
theorem noStr_pl (sa : Option Addr) (sn sc : Nat) (ch : Bool) (ta : Option Addr) (tn tc : Nat) (na : Option Addr) (nn nc : Nat) : NoStr (plC sa sn sc ch ta tn tc na nn nc) := by
  intro o z h
  unfold plC at h
  rcases o with _ | _ | _ | _ | o
  all_goals first | (simp at h; done) | (cases h)
theorem noStr_arr (ch : Bool) (more : Int) (d : Nat → Int) (na : Option Addr) (nn nc : Nat) (ta : Option Addr) (tn tc : Nat) : NoStr (arrC ch more d na nn nc ta tn tc) := by
  intro o z h
  rcases arr_cells o _ h with ⟨_, _, e⟩ | ⟨_, _, _, e⟩ | ⟨_, _, _, _, _, e⟩ <;> cases e
theorem QRow.apart {w : World} {a : Option Addr} {n c : Nat} {fB : Nat → Bool} {fS fT : Nat → ByteArray} {g : Nat} {t : TypeId} {cs : Array Value} (h : QRow w a n c fB fS fT) (hr : Row w g t cs) (hn : NoStr cs) : n = 0 ∨ ∀ x, a = some x → x.block ≠ g := by
  rcases Nat.eq_zero_or_pos n with h0 | h0
  · exact .inl h0
  · obtain ⟨b, off, rfl, _, hc⟩ := h.2.2.resolve_left (by omega)
    refine .inr fun x hx e => ?_
    obtain rfl := Option.some.inj hx
    have e : b = g := e
    subst e
    have := (hc 0 h0).2.1
    rw [hr.cell] at this
    exact hn _ _ this
/-- A plain array stays when a block turns that holds neither a number nor a text. -/
theorem PlnAt.away {w w' : World} {cs : Array Value} {S : Nat → Int} {r : Nat} {ch : Bool} {g : Nat → Int} {tn : Nat} {fB : Nat → Bool} {fS fT : Nat → ByteArray} {nn : Nat} (h : PlnAt w cs S r ch g tn fB fS fT nn) {k : Nat} {t : TypeId} {cs0 : Array Value} (hr : Row w k t cs0) (h1 : NoInt cs0) (h2 : NoStr cs0) (hf : Far k w w') : PlnAt w' cs S r ch g tn fB fS fT nn := by
  obtain ⟨sa, sc, ta, tc, na, nc, e, a1, a2, a3⟩ := h
  exact ⟨sa, sc, ta, tc, na, nc, e, a1.away (a1.apart hr h1) hf, a2.away (a2.apart hr h1) hf, a3.away (a3.apart hr h2) hf⟩
def plZer : Array Value := plC none 0 0 false none 0 0 none 0 0
theorem ans_pln {w w3 : World} {cs : Array Value} {S : Nat → Int} {r : Nat} {ch : Bool} {g : Nat → Int} {tn : Nat} {fB : Nat → Bool} {fS fT : Nat → ByteArray} {nn : Nat} (h : PlnAt w3 cs S r ch g tn fB fS fT nn) (hb : Below w.heap.size w w3) {k : Nat} {t : TypeId} (hr0 : Row w3 k t plZer) (hk : w.heap.size ≤ k) :
    PlnTold S r ch g tn fB fS fT nn w (w3.setRow k cs) (.returned (.agg cs)) :=
  ⟨cs, rfl, h.away hr0 (noInt_pl _ _ _ _ _ _ _ _ _ _) (noStr_pl _ _ _ _ _ _ _ _ _ _) (Far.setRow _ _ _), below_put hb hk _⟩

end Go.Proofs.YtdnbpkbapmlfaaaGreatDoor
