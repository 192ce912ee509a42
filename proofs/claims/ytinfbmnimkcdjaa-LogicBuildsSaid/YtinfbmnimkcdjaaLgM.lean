/-
  Forms: what they are, which are right, their values.
-/
import Derived.Test.YtinfbmnimkcdjaaVlH
namespace Go.Proofs.Ytinfbmnimkcdjaa
open Go.RowKit
set_option maxRecDepth 100000

/-- A form: its op, its number, its name, its kids. -/
inductive F where
  | node (o z : Int) (nm : ByteArray) (ks : List F)
def F.op : F → Int | .node o _ _ _ => o
def F.num : F → Int | .node _ z _ _ => z
def F.name : F → ByteArray | .node _ _ nm _ => nm
def F.kids : F → List F | .node _ _ _ ks => ks

/-- The sort of an op: 0 an int, 1 a bool, 2 a list. -/
def srt (o : Int) : Int := if 8 ≤ o ∧ o ≤ 11 then 2 else if 12 ≤ o ∧ o ≤ 20 then 1 else 0
/-- Does an op have kids of these sorts? -/
def kidsOk (o : Int) (ss : List Int) : Bool :=
  if o = 0 ∨ o = 1 ∨ o = 8 ∨ o = 9 ∨ o = 12 ∨ o = 13 ∨ o = 14 then decide (ss = [])
  else if o = 3 ∨ o = 5 then decide (ss = [0])
  else if o = 2 ∨ o = 4 ∨ o = 15 then decide (ss = [0, 0])
  else if o = 6 ∨ o = 7 ∨ o = 11 then decide (ss = [2])
  else if o = 10 then decide (ss = [0, 2])
  else if o = 16 then decide (ss = [0, 0]) || decide (ss = [2, 2])
  else if o = 17 then decide (ss = [1])
  else if o = 18 ∨ o = 19 then ss.all (fun s => decide (s = 1))
  else if o = 20 then decide (ss = [1, 1])
  else false
def fitF (o z : Int) (ss : List Int) : Bool := kidsOk o ss && (decide (o ≠ 5) || decide (1 ≤ z))
def srts (ks : List F) : List Int := ks.map fun f => srt f.op
mutual
def rt : F → Bool
  | .node o z _ ks => fitF o z (srts ks) && rts ks
def rts : List F → Bool
  | [] => true
  | f :: l => rt f && rts l
end
theorem rts_all : ∀ l : List F, rts l = l.all rt
  | [] => rfl
  | f :: l => by rw [rts, List.all_cons, rts_all l]
mutual
def szF : F → Nat
  | .node _ _ _ ks => 1 + szsF ks
def szsF : List F → Nat
  | [] => 0
  | f :: l => szF f + szsF l
end
theorem szsF_app : ∀ a b : List F, szsF (a ++ b) = szsF a + szsF b
  | [], b => by simp [szsF]
  | f :: a, b => by rw [List.cons_append, szsF, szsF, szsF_app a b]; omega
theorem szsF_take (ks : List F) (j : Nat) (h : j < ks.length) : szsF (ks.take (j + 1)) = szsF (ks.take j) + szF ks[j] := by
  rw [List.take_succ_eq_append_getElem h, szsF_app, szsF, szsF]; omega
theorem szsF_take_le (ks : List F) (j : Nat) : szsF (ks.take j) ≤ szsF ks := by
  have := szsF_app (ks.take j) (ks.drop j)
  rw [List.take_append_drop] at this; omega

/-- The parts of a value. -/
def asI : V → Int
  | .I z => z
  | _ => 0
def asB : V → Bool
  | .B b => b
  | _ => false
def asL : V → List Int
  | .L l => l
  | _ => []
def at0 (vs : List V) : V := vs.getD 0 (.I 0)
def at1 (vs : List V) : V := vs.getD 1 (.I 0)
/-- What an op makes of its kids' values. -/
def opV (r : ByteArray → V) (o z : Int) (nm : ByteArray) (vs : List V) : V :=
  if o = 0 then .I z
  else if o = 1 then .I (asI (r nm))
  else if o = 2 then .I (asI (at0 vs) + asI (at1 vs))
  else if o = 3 then .I (z * asI (at0 vs))
  else if o = 4 then .I (asI (at0 vs) * asI (at1 vs))
  else if o = 5 then .I (Int.fdiv (asI (at0 vs)) z)
  else if o = 6 then .I ((asL (at0 vs)).length : Nat)
  else if o = 7 then .I ((asL (at0 vs)).headD 0)
  else if o = 8 then .L (asL (r nm))
  else if o = 9 then .L []
  else if o = 10 then .L (asI (at0 vs) :: asL (at1 vs))
  else if o = 11 then .L (asL (at0 vs)).tail
  else if o = 12 then .B true
  else if o = 13 then .B false
  else if o = 14 then .B (asB (r nm))
  else if o = 15 then .B (decide (asI (at0 vs) ≤ asI (at1 vs)))
  else if o = 16 then .B (decide (at0 vs = at1 vs))
  else if o = 17 then .B (!asB (at0 vs))
  else if o = 18 then .B (vs.all asB)
  else if o = 19 then .B (vs.any asB)
  else if o = 20 then .B (asB (at0 vs) == asB (at1 vs))
  else .I 0
mutual
/-- The value of a form where names are bound by r. -/
def ev (r : ByteArray → V) : F → V
  | .node o z nm ks => opV r o z nm (evs r ks)
def evs (r : ByteArray → V) : List F → List V
  | [] => []
  | f :: l => ev r f :: evs r l
end
theorem evs_map (r : ByteArray → V) : ∀ l : List F, evs r l = l.map (ev r)
  | [] => rfl
  | f :: l => by rw [evs, List.map_cons, evs_map r l]
theorem ops21 (o : Int) : (o = 0 ∨ o = 1 ∨ o = 2 ∨ o = 3 ∨ o = 4 ∨ o = 5 ∨ o = 6 ∨ o = 7 ∨ o = 8 ∨ o = 9 ∨ o = 10 ∨ o = 11 ∨ o = 12 ∨ o = 13 ∨ o = 14 ∨ o = 15 ∨ o = 16 ∨ o = 17 ∨ o = 18 ∨ o = 19 ∨ o = 20) ∨ (o < 0 ∨ 20 < o) := by omega
theorem opV_sort (r : ByteArray → V) (o z : Int) (nm : ByteArray) (vs : List V) : sortOf (opV r o z nm vs) = srt o := by
  rcases ops21 o with h | h
  · rcases h with rfl | rfl | rfl | rfl | rfl | rfl | rfl | rfl | rfl | rfl | rfl | rfl | rfl | rfl | rfl | rfl | rfl | rfl | rfl | rfl | rfl <;> rfl
  · unfold opV srt
    rw [if_neg (by omega), if_neg (by omega), if_neg (by omega), if_neg (by omega), if_neg (by omega), if_neg (by omega), if_neg (by omega), if_neg (by omega), if_neg (by omega), if_neg (by omega), if_neg (by omega), if_neg (by omega), if_neg (by omega), if_neg (by omega), if_neg (by omega), if_neg (by omega), if_neg (by omega), if_neg (by omega), if_neg (by omega), if_neg (by omega), if_neg (by omega), if_neg (by omega), if_neg (by omega)]
    rfl
theorem ev_sort (r : ByteArray → V) : ∀ f : F, sortOf (ev r f) = srt f.op
  | .node o z nm ks => by rw [ev]; exact opV_sort r o z nm _
theorem ev_int {r : ByteArray → V} {f : F} (h : srt f.op = 0) : ev r f = .I (asI (ev r f)) := by
  have := ev_sort r f
  rw [h] at this
  cases he : ev r f with
  | I z => rfl
  | B b => rw [he] at this; cases this
  | L l => rw [he] at this; cases this
theorem ev_bool {r : ByteArray → V} {f : F} (h : srt f.op = 1) : ev r f = .B (asB (ev r f)) := by
  have := ev_sort r f
  rw [h] at this
  cases he : ev r f with
  | I z => rw [he] at this; cases this
  | B b => rfl
  | L l => rw [he] at this; cases this
theorem ev_list {r : ByteArray → V} {f : F} (h : srt f.op = 2) : ev r f = .L (asL (ev r f)) := by
  have := ev_sort r f
  rw [h] at this
  cases he : ev r f with
  | I z => rw [he] at this; cases this
  | B b => rw [he] at this; cases this
  | L l => rfl

/-- Values that are no greater than what the contracts allow. -/
def SmV : V → Prop
  | .I z => z.natAbs < L32 ^ 600
  | .B _ => True
  | .L l => l.length ≤ 1000 ∧ ∀ z ∈ l, z.natAbs < L32 ^ 600
mutual
/-- All parts' values are such. -/
def Sm (r : ByteArray → V) : F → Prop
  | .node o z nm ks => SmV (opV r o z nm (evs r ks)) ∧ Sms r ks
def Sms (r : ByteArray → V) : List F → Prop
  | [] => True
  | f :: l => Sm r f ∧ Sms r l
end
theorem Sms.get {r : ByteArray → V} : ∀ {l : List F}, Sms r l → ∀ f ∈ l, Sm r f
  | [], _, f, hf => by cases hf
  | a :: l, h, f, hf => by
    rw [Sms] at h
    rcases List.mem_cons.1 hf with rfl | hf
    · exact h.1
    · exact h.2.get f hf
theorem Sm.val {r : ByteArray → V} : ∀ {f : F}, Sm r f → SmV (ev r f)
  | .node o z nm ks, h => by rw [Sm] at h; rw [ev]; exact h.1
theorem Sm.kid {r : ByteArray → V} {o z : Int} {nm : ByteArray} {ks : List F} (h : Sm r (.node o z nm ks)) : ∀ f ∈ ks, Sm r f := by
  rw [Sm] at h; exact h.2.get

/-- What names are bound to by a list of bindings: the last one counts. -/
def rho (env : List (ByteArray × V)) (nm : ByteArray) : V := env.foldl (fun a p => if p.1 = nm then p.2 else a) (.I 0)
theorem rho_app (env : List (ByteArray × V)) (p : ByteArray × V) (nm : ByteArray) : rho (env ++ [p]) nm = if p.1 = nm then p.2 else rho env nm := by
  unfold rho; rw [List.foldl_append]; rfl
theorem rho_take (env : List (ByteArray × V)) (nm : ByteArray) (j : Nat) (h : j < env.length) : rho (env.take (j + 1)) nm = if env[j].1 = nm then env[j].2 else rho (env.take j) nm := by
  rw [List.take_succ_eq_append_getElem h, rho_app]
theorem rho_nil (nm : ByteArray) : rho [] nm = .I 0 := rfl
end Go.Proofs.Ytinfbmnimkcdjaa
