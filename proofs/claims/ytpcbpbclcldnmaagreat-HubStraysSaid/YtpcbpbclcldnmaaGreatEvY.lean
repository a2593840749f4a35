/-
  Laws by calls worked out ahead. Conditions: none.
-/
import Derived.Test.YtpcbpbclcldnmaaGreatEvW
import Derived.Test.YtpcbpbclcldnmaaGreatEvS
namespace Go.Proofs.YtpcbpbclcldnmaaGreat.ev
set_option linter.unusedVariables false
set_option linter.unusedSimpArgs false
abbrev vi (n : Nat) : Value := .int .i64 (.ofNat n)
abbrev vb (n : Nat) : Value := .int .u8 (.ofNat n)
abbrev vw (n : Nat) : Value := .int .u32 (.ofNat n)
abbrev vp (n : Nat) : Value := .pointer (some ⟨n, 0, none⟩)
abbrev vs0 : Value := .slice none 0 0
/-- One table of known calls behind another. -/
def spTwo (a b : SpF) : SpF := fun k args => match a k args with
  | some m => some m
  | none => b k args
theorem spTwo_ok [Env] {P : Program} {a b : SpF} (ha : SpOK P a) (hb : SpOK P b) : SpOK P (spTwo a b) := by
  have key : ∀ k args m, spTwo a b k args = some m → a k args = some m ∨ b k args = some m := fun k args m h => by
    unfold spTwo at h
    split at h
    · rename_i m' hm
      rw [hm]; exact .inl h
    · exact .inr h
  refine ⟨fun k args m h => ?_, fun k args m h => ?_, fun k args m h => ?_⟩
  · rcases key _ _ _ h with h | h
    · exact ha.loc _ _ _ h
    · exact hb.loc _ _ _ h
  · rcases key _ _ _ h with h | h
    · exact ha.fn _ _ _ h
    · exact hb.fn _ _ _ h
  · rcases key _ _ _ h with h | h
    · exact ha.run _ _ _ h
    · exact hb.run _ _ _ h
def AllOK [Env] (P : Program) (l : List Memo) : Prop := ∀ e ∈ l, MemoOK P e
theorem allNil [Env] {P : Program} : AllOK P [] := fun e h => by cases h
theorem allCons [Env] {P : Program} {e : Memo} {l : List Memo} (h : MemoOK P e) (k : AllOK P l) : AllOK P (e :: l) := fun x hx => by
  rcases List.mem_cons.1 hx with rfl | hx
  · exact h
  · exact k x hx
theorem allENil [Env] {P : Program} : ∀ e ∈ ([] : List Ent), EntOK P e := fun e h => by cases h
theorem allECons [Env] {P : Program} {e : Ent} {l : List Ent} (h : EntOK P e) (k : ∀ x ∈ l, EntOK P x) : ∀ x ∈ e :: l, EntOK P x := fun x hx => by
  rcases List.mem_cons.1 hx with rfl | hx
  · exact h
  · exact k x hx
/-- The table, asked for what is not looked into alone. -/
def anyOp : List Value → Bool
  | [] => false
  | .chan _ :: _ => true
  | .agg _ :: _ => true
  | .slice (some ⟨_, _, some (_ + 1)⟩) _ _ :: _ => true
  | _ :: l => anyOp l
def tabG (P : Program) (l : List Ent) : TabF := fun o xs => match anyOp xs with
  | true => tabOf P l o xs
  | false => none
abbrev TabOK [Env] (P : Program) (tab : TabF) : Prop := ∀ β o xs v ρ, tab o xs = some v → PW β xs (o.op.operands.toList.map ρ) → ∃ v', VR β v v' ∧ ∀ w, (execOp ρ o).run P w = .ok (.value v') w
theorem tabG_ok [Env] {P : Program} {l : List Ent} (hl : ∀ e ∈ l, EntOK P e) : TabOK P (tabG P l) := fun β o xs v ρ h => by
  unfold tabG at h
  split at h
  · exact tabOf_ok hl β o xs v ρ h
  · cases h
theorem noTab_ok [Env] {P : Program} : TabOK P noTab := fun _ _ _ _ _ h => by cases h
theorem memo [Env] {tab : TabF} {sp : SpF} (hsp : SpOK Tryz.prog sp) (htab : TabOK Tryz.prog tab) {e : Memo} (hc : chk Tryz.prog tab sp 300 e = true) : MemoOK Tryz.prog e :=
  memoOK hsp htab mixed noCount' hc
abbrev E0 : Env := env []
/-- A law of nothing that is not looked into. -/
theorem lawM {sp : SpF} (hsp : @SpOK E0 Tryz.prog sp) {k : FuncId} {args : List Value} {b : Bool} (h : says (fxCall Tryz.prog noTab sp 300 k args 0 .lf) = some b) (hargs : args.all flat = true) (w : World) :
    Calls Tryz.prog k args.toArray w (fun e w' => e = .returned (.bool b) ∧ Only [] w w') :=
  lawT [] hsp (@noTab_ok E0 _) h (@PW.of_flat E0 _ _ hargs) w
end Go.Proofs.YtpcbpbclcldnmaaGreat.ev
