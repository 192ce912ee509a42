/-
  The value of a list: one step.
-/
import Derived.Test.YtinfbmnimkcdjaaLgJ
namespace Go.Proofs.Ytinfbmnimkcdjaa
open Go.RowKit
set_option maxRecDepth 100000
set_option linter.unusedVariables false
set_option linter.unusedSimpArgs false

attribute [local go_sem] fieldV0 fieldV1 fieldV2 fieldV3

theorem n32_F {o : Int} {b : Bool} {ao : Option Addr} {l c : Nat} {nm : ByteArray} {ko : Option Addr} {kl kc : Nat} : N32 (#[Value.int .i64 o, .bool b, .slice ao l c, .string nm, .slice ko kl kc] : Array Value).toList := by
  intro u hu z; simp only [List.mem_cons, List.not_mem_nil, or_false] at hu; rcases hu with rfl | rfl | rfl | rfl | rfl <;> (intro h; cases h)
/-- A growing list where another block is written. -/
theorem El.Row.other {α : Type} {E : El α} {w w' : World} {B g : Nat} {v : Value} {el : List α} (h : E.Row w B v el) (hg : w.grownBy w' (some g)) (hgB : g < B) {e : TypeId} (hf : Fr e w w') (hok : E.ok e) : E.Row w' B v el := by
  have hne : ∀ j, v.ownBlock = some j → j ≠ g := fun j hj e => by have := (h.ge hj).1; omega
  refine ⟨?_, fun j hj => ?_, fun q hq => E.fr hok hf (h.rd q hq)⟩
  · rcases hr : v.ownBlock with _ | j
    · exact World.ownsRow.kept h.own hg (.inl hr)
    · exact World.ownsRow.kept h.own hg (.inr (by rw [hr]; intro e; injection e with e; exact hne j hr e))
  · obtain ⟨c, hc, h32⟩ := h.n32 j hj
    exact ⟨c, (hg.block j (lt_of_block hc) (fun e => by injection e with e; exact hne j hj e)).trans hc, h32⟩
theorem sm_list {r : ByteArray → V} {t : F} (hs : srt t.op = 2) (h : Sm r t) : (asL (ev r t)).length ≤ 1000 ∧ ∀ z ∈ asL (ev r t), z.natAbs < L32 ^ 600 := by
  have := h.val
  rw [ev_list hs] at this; exact this
theorem NL.tail {w : World} {ko : Option Addr} {n kc : Nat} {zs : List Int} (h : NL w (.slice ko n kc) zs) : NL w (sliced ko (min 1 n) n kc 2) zs.tail := by
  obtain ⟨ns, h1, rfl⟩ := h
  have hn : n = ns.length := by obtain ⟨_, _, e, _⟩ := h1; injection e
  subst hn
  have := h1.sub (i := min 1 ns.length) (j := ns.length) (Nat.min_le_right _ _) (Nat.le_refl _)
  refine ⟨_, this, ?_⟩
  cases ns with
  | nil => rfl
  | cons a l => simp [Nat.min_eq_left]
set_option maxHeartbeats 8000000 in
theorem lst_step (d : Nat) (IN : NumC d) (IL : LstC d) : LstC (d + 1) := by
  intro ve v env t S w h he hr hs hsm
  obtain ⟨eo, en, ec, rfl⟩ := he.shape
  have ho : t.op = 8 ∨ t.op = 11 ∨ t.op = 9 ∨ t.op = 10 := by
    unfold srt at hs
    split at hs
    · omega
    · split at hs
      · omega
      · omega
  by_cases hloop : t.op = 9 ∨ t.op = 10
  · have h0 := h
    obtain ⟨b, ao, l, c, ko, kl, kc, rfl, ⟨-, -, -, -, hkm⟩, -, -⟩ := h.open
    obtain ⟨o, hoo⟩ : ∃ o, o = t.op := ⟨_, rfl⟩
    obtain ⟨nm, hnm⟩ : ∃ o, o = t.name := ⟨_, rfl⟩
    rw [← hoo] at hloop h0 ho ⊢
    rw [← hnm] at h0 ⊢
    have n8 : (o == 8) = false := beq_eq_false_iff_ne.2 (by omega)
    have n11 : (o == 11) = false := beq_eq_false_iff_ne.2 (by omega)
    have HE := Lib.hid he
    have HSM := Lib.hid hsm
    have HT := Lib.hid h0
    have HR := Lib.hid hr
    have HS := Lib.hid hs
    have HOO := Lib.hid hoo
    have HNM := Lib.hid hnm
    have HE0 := Lib.hid he
    have HLP := Lib.hid hloop
    have HL0 := Lib.hid (sm_list hs hsm)
    have HW := Lib.hid (Below.refl w.heap.size w)
    clear h h0 he hr hs hsm ho hloop hoo hnm hkm
    go_enter Try.func63, Try.ntmps63
    obtain ⟨x1, kf, ef, ekf, hbf, hkf, HBf⟩ := newV w #[.int .i64 o, .bool b, .slice ao l c, .string nm, .slice ko kl kc] 29
    replace HE := Lib.hid (HE.out.below hbf.out)
    replace HW := Lib.hid (HW.out.trans (hbf.out.mono HW.out.size))
    have HKf : Hid (w.heap.size ≤ kf) := hkf
    have HB1 : Hid (kf < x1.heap.size) := Lib.hid (lt_of_block HBf.out)
    have c0 := cell_at (v := .int .i64 o) HBf.out 0 rfl
    have fc0 := froz_at HBf.out 0
    have c1 := cell_at (v := .bool b) HBf.out 1 rfl
    have fc1 := froz_at HBf.out 1
    have c2 := cell_at (v := .slice ao l c) HBf.out 2 rfl
    have fc2 := froz_at HBf.out 2
    have c3 := cell_at (v := .string nm) HBf.out 3 rfl
    have fc3 := froz_at HBf.out 3
    have c4 := cell_at (v := .slice ko kl kc) HBf.out 4 rfl
    have fc4 := froz_at HBf.out 4
    go_wp2_with fail
    clear c0 fc0 c1 fc1 c2 fc2 c3 fc3 c4 fc4
    clear n8 n11
    go_loopw [6] (fun v wr => ∃ (els : List NU) (t' : F) (dd : Nat) (b : Bool) (ao : Option Addr) (l c : Nat) (ko : Option Addr) (kl kc : Nat), Hid (nE.Row wr x1.heap.size v els) ∧ Hid (asL (ev (rho env) t) = els.map (·.z) ++ asL (ev (rho env) t')) ∧ Hid (dd ≤ d + 1 ∧ (t'.op ≠ 9 → t'.op ≠ 10 → dd ≤ d)) ∧ Hid (rt t' = true ∧ srt t'.op = 2 ∧ Sm (rho env) t') ∧ Hid (FC w S dd (.agg #[.int .i64 t'.op, .bool b, .slice ao l c, .string t'.name, .slice ko kl kc]) t') ∧ Hid (wr.heap[kf]? = some (.cells #[.int .i64 t'.op, .bool b, .slice ao l c, .string t'.name, .slice ko kl kc] 29 (0, 0))) ∧ Hid (Below w.heap.size w wr) ∧ Hid (x1.heap.size ≤ wr.heap.size)) (fun v _ => match v with | .slice _ n _ => 2000 - n | _ => 0)
    case atStart => exact ⟨[], t, d + 1, b, ao, l, c, ko, kl, kc, Lib.hid (El.Row.nil _ _), Lib.hid rfl, Lib.hid ⟨Nat.le_refl _, fun h1 h2 => by have := HLP.out; rw [HOO.out] at this; omega⟩, Lib.hid ⟨HR.out, HS.out, HSM.out⟩, Lib.hid (by have := HT.out; rw [HOO.out, HNM.out] at this; exact this), Lib.hid (by have := HBf.out; rw [HOO.out, HNM.out] at this; exact this), HW, Lib.hid (Nat.le_refl _)⟩
    case round =>
      obtain ⟨wl, hwl⟩ : ∃ q, q = wr := ⟨_, rfl⟩
      subst hwl
      clear HW HBf HE
      obtain ⟨els, t', dd, b', ao', l', c', ko', kl', kc', HROW, HEQ, HDD, HTT, HFT, HBf, HW, HSZ⟩ := hrel
      have HE : Hid (EL wl (.slice eo en ec) env) := Lib.hid (HE0.out.below HW.out)
      obtain ⟨vo, vc, rfl, hvc⟩ := HROW.out.form
      have hlen : els.length + (asL (ev (rho env) t')).length ≤ 1000 := by have h1 := HL0.out.1; rw [HEQ.out, List.length_append, List.length_map] at h1; exact h1
      have HLEN := Lib.hid hlen
      clear hlen hvc
      by_cases h10 : t'.op = 10
      · have HFO := HFT.out.open
        obtain ⟨_, _, _, _, _, _, _, e1, ⟨-, -, -, -, hkm⟩, hd1, hkids⟩ := HFO
        injection e1 with e1
        have e2 := congrArg (fun t : Array Value => t[4]?) e1
        injection e2 with e2
        injection e2 with e2 e3 e4
        subst e2 e3 e4
        obtain ⟨o', z', nm', ks'⟩ := t'
        simp only [F.op, F.name, F.kids] at h10 hkids HFT HBf HTT HEQ HDD HLEN
        subst h10
        obtain ⟨hr1, hs1, hm1⟩ := HTT.out
        obtain ⟨hfit, hrs⟩ := rt_node hr1
        obtain ⟨p, q, rfl, hp, hq⟩ := srts_two (ks := ks') (s := 0) (r := 2) (by simpa [fitF, kidsOk] using hfit)
        have HSP := Lib.hid (hm1.kid p (by simp))
        have HRP := Lib.hid (hrs p (by simp))
        have HP := Lib.hid hp
        have HSQ := Lib.hid (hm1.kid q (by simp))
        have HRQ := Lib.hid (hrs q (by simp))
        have HQ := Lib.hid hq
        have HEV : Hid (asL (ev (rho env) (.node 10 z' nm' [p, q])) = asI (ev (rho env) p) :: asL (ev (rho env) q)) := Lib.hid (by rw [ev, evs, evs, evs]; rfl)
        have HPZ : Hid ((asI (ev (rho env) p)).natAbs < L32 ^ 600) := Lib.hid (by have := (hm1.kid p (by simp)).val; rw [ev_int hp] at this; exact this)
        have hdd : dd - 1 ≤ d := by have := HDD.out.1; omega
        have hkl : kl' = 2 := by obtain ⟨_, _, e, _⟩ := hkids.form; injection e
        subst hkl
        have hkm' : kc' ≤ 9223372036854775807 := hkm
        have HKW := Lib.hid hkids
        have HKL := Lib.hid (hkids.below HW.out)
        have HDL := Lib.hid hdd
        clear hr1 hs1 hm1 hfit hrs hp hq hkids hdd hd1 hkm e1 HTT
        obtain ⟨a, bp, op, lp, cp, kop, klp, kcp, hko, ⟨p0, p1, p2, p3, p4⟩, hfp⟩ := HKL.out.first
        subst hko
        obtain ⟨opp, hopp⟩ : ∃ x, x = p.op := ⟨_, rfl⟩
        obtain ⟨nmp, hnmp⟩ : ∃ x, x = p.name := ⟨_, rfl⟩
        rw [← hopp] at p0 hfp
        rw [← hnmp] at p3 hfp
        have HFP := Lib.hid (hfp.up HDL.out)
        clear hfp hopp hnmp
        obtain ⟨a2, bq, oq, lq, cq, koq, klq, kcq, hko2, ⟨q0, q1, q2, q3, q4⟩, hfq⟩ := HKW.out.second
        injection hko2 with hko2
        subst hko2
        obtain ⟨opq, hopq⟩ : ∃ x, x = q.op := ⟨_, rfl⟩
        obtain ⟨nmq, hnmq⟩ : ∃ x, x = q.name := ⟨_, rfl⟩
        rw [← hopq] at q0 hfq
        rw [← hnmq] at q3 hfq
        have HFQ := Lib.hid hfq
        have HOQ := Lib.hid hopq
        have HNQ := Lib.hid hnmq
        have HQC : Hid (At5 w ⟨a.block, a.off + 5, none⟩ opq bq oq lq cq nmq koq klq kcq) := Lib.hid ⟨q0, q1, q2, q3, q4⟩
        clear hfq hopq hnmq q0 q1 q2 q3 q4 HKW
        have c0 := cell_at (v := .int .i64 10) HBf.out 0 rfl
        have fc0 := froz_at HBf.out 0
        have c1 := cell_at (v := .bool b') HBf.out 1 rfl
        have fc1 := froz_at HBf.out 1
        have c2 := cell_at (v := .slice ao' l' c') HBf.out 2 rfl
        have fc2 := froz_at HBf.out 2
        have c3 := cell_at (v := .string nm') HBf.out 3 rfl
        have fc3 := froz_at HBf.out 3
        have c4 := cell_at (v := .slice (some a) 2 kc') HBf.out 4 rfl
        have fc4 := froz_at HBf.out 4
        go_wp2_with fail
        refine (IN _ _ env p S wl HFP.out HE.out HRP.out HP.out HSP.out).mono ?_
        rintro e x2 ⟨x, rfl, hx, hb⟩
        clear c0 fc0 c1 fc1 c2 fc2 c3 fc3 c4 fc4 p0 p1 p2 p3 p4
        replace HBf := kBV hb HBf
        replace HE := Lib.hid (HE.out.below hb)
        replace HW := Lib.hid (HW.out.trans (hb.mono HW.out.size))
        replace HROW := Lib.hid (HROW.out.below hb)
        replace HKL := Lib.hid (HKL.out.below hb)
        obtain ⟨nu, bn, on, ln, cn, rfl, hne, hnz, hnr⟩ := hx.unit (by decide)
        have HNE := Lib.hid hne
        have HNZ := Lib.hid hnz
        have HNR := Lib.hid hnr
        clear hx hne hnz hnr HFP
        obtain ⟨x3, ky, ey, eky, hby, hky, HBy⟩ := newV x2 #[.bool bn, .slice on ln cn] 26
        replace HBf := kBV hby.out HBf
        replace HE := Lib.hid (HE.out.below hby.out)
        replace HW := Lib.hid (HW.out.trans (hby.out.mono HW.out.size))
        replace HROW := Lib.hid (HROW.out.below hby.out)
        replace HKL := Lib.hid (HKL.out.below hby.out)
        replace HNR := Lib.hid (nE.below HNR.out hby.out)
        have HAT := Lib.hid (one_atN HBy.out HNE.out HNR.out)
        have c0 := cell_at (v := .int .i64 10) HBf.out 0 rfl
        have fc0 := froz_at HBf.out 0
        have c1 := cell_at (v := .bool b') HBf.out 1 rfl
        have fc1 := froz_at HBf.out 1
        have c2 := cell_at (v := .slice ao' l' c') HBf.out 2 rfl
        have fc2 := froz_at HBf.out 2
        have c3 := cell_at (v := .string nm') HBf.out 3 rfl
        have fc3 := froz_at HBf.out 3
        have c4 := cell_at (v := .slice (some a) 2 kc') HBf.out 4 rfl
        have fc4 := froz_at HBf.out 4
        have HSZ2 : Hid (x1.heap.size ≤ x3.heap.size) := Lib.hid (Nat.le_trans HSZ.out (Nat.le_trans hb.size hby.out.size))
        go_wp2_with (at_builtin; refine El.Row.append (E := nE) HROW.out rfl (.tmp 36) (.tmp 43) rfl rfl rfl HAT.out (by have := HLEN.out; simp; omega) HSZ2.out ?_; intro v9 w9 r1 r2 r3 r4; have HBf9 := Lib.hid ((r3.block kf HB1.out).trans HBf.out); have HW9 := Lib.hid (HW.out.trans (r3.mono (Nat.le_trans hbf.out.size (Nat.le_refl _)))); have HR9 := Lib.hid r1; have HS9 := Lib.hid (Nat.le_trans HSZ2.out r3.size); clear r1 r2 r3 r4 c0 c1 c2 c3 c4 fc0 fc1 fc2 fc3 fc4; have c4 := cell_at (v := .slice (some a) 2 kc') HBf9.out 4 rfl; have c0 := cell_at (v := .int .i64 10) HBf9.out 0 rfl; have c1 := cell_at (v := .bool b') HBf9.out 1 rfl; have c2 := cell_at (v := .slice ao' l' c') HBf9.out 2 rfl; have c3 := cell_at (v := .string nm') HBf9.out 3 rfl; have fc0 := froz_at HBf9.out 0; have fc1 := froz_at HBf9.out 1; have fc2 := froz_at HBf9.out 2; have fc3 := froz_at HBf9.out 3; have fc4 := froz_at HBf9.out 4; obtain ⟨q0, q1, q2, q3, q4⟩ := HQC.out.below HW9.out; simp only at q0 q1 q2 q3 q4)
        have hg := grown5V (w := w9) (k := kf) (.int .i64 opq) (.bool bq) (.slice oq lq cq) (.string nmq) (.slice koq klq kcq)
        have hfr : Fr 29 w9 _ := .of_grown hg (fun j hj => by injection hj with hj; subst hj; exact ⟨_, HBf9.out, n32_F⟩)
        go_roundw
        case rel => exact ⟨els ++ [nu], q, dd - 1, bq, oq, lq, cq, koq, klq, kcq, Lib.hid (HR9.out.other hg HB1.out hfr trivial), Lib.hid (by rw [HEQ.out, HEV.out, List.map_append, List.append_assoc]; simp [HNZ.out]), Lib.hid ⟨by have := HDL.out; omega, fun _ _ => HDL.out⟩, Lib.hid ⟨HRQ.out, HQ.out, HSQ.out⟩, Lib.hid (by rw [← HOQ.out, ← HNQ.out]; exact HFQ.out), Lib.hid (by rw [← HOQ.out, ← HNQ.out]; exact set5_same HBf9.out _ _ _ _ _), Lib.hid (ext_below HW9.out hg HKf.out), Lib.hid (Nat.le_trans HS9.out hg.size)⟩
        case measure =>
          obtain ⟨xo, xc, rfl, -⟩ := HR9.out.form
          have := HLEN.out
          rw [HEV.out] at this
          simp only [List.length_append, List.length_cons, List.length_nil] at this ⊢
          omega
      · have h10b : (t'.op == 10) = false := beq_eq_false_iff_ne.2 h10
        obtain ⟨o', ho'⟩ : ∃ o, o = t'.op := ⟨_, rfl⟩
        obtain ⟨nm', hnm'⟩ : ∃ o, o = t'.name := ⟨_, rfl⟩
        have HFT2 := Lib.hid (HFT.out.below HW.out)
        rw [← ho'] at HBf h10b h10 HFT2 HDD
        rw [← hnm'] at HBf HFT2
        have HO' := Lib.hid ho'
        clear ho' hnm' HFT
        by_cases h9 : o' = 9
        · have h9b : (o' == 9) = true := by rw [h9]; rfl
          have HH : Hid (asL (ev (rho env) t') = []) := Lib.hid (by obtain ⟨o2, z2, nm2, ks2⟩ := t'; have := HO'.out; rw [h9] at this; simp only [F.op] at this; subst this; rw [ev]; rfl)
          clear h9 h10
          have c0 := cell_at (v := .int .i64 o') HBf.out 0 rfl
          have fc0 := froz_at HBf.out 0
          have c1 := cell_at (v := .bool b') HBf.out 1 rfl
          have fc1 := froz_at HBf.out 1
          have c2 := cell_at (v := .slice ao' l' c') HBf.out 2 rfl
          have fc2 := froz_at HBf.out 2
          have c3 := cell_at (v := .string nm') HBf.out 3 rfl
          have fc3 := froz_at HBf.out 3
          have c4 := cell_at (v := .slice ko' kl' kc') HBf.out 4 rfl
          have fc4 := froz_at HBf.out 4
          go_wp2_with fail
          go_ret
          exact ⟨_, rfl, ⟨els, HROW.out.at, by rw [HEQ.out, HH.out, List.append_nil]⟩, HW.out⟩
        · have h9b : (o' == 9) = false := beq_eq_false_iff_ne.2 h9
          have hdd : dd ≤ d := HDD.out.2 h9 h10
          have HDL := Lib.hid hdd
          clear h9 h10 hdd
          obtain ⟨hr1, hs1, hm1⟩ := HTT.out
          have HR1 := Lib.hid hr1
          have HS1 := Lib.hid hs1
          have HM1 := Lib.hid hm1
          clear hr1 hs1 hm1
          have c0 := cell_at (v := .int .i64 o') HBf.out 0 rfl
          have fc0 := froz_at HBf.out 0
          have c1 := cell_at (v := .bool b') HBf.out 1 rfl
          have fc1 := froz_at HBf.out 1
          have c2 := cell_at (v := .slice ao' l' c') HBf.out 2 rfl
          have fc2 := froz_at HBf.out 2
          have c3 := cell_at (v := .string nm') HBf.out 3 rfl
          have fc3 := froz_at HBf.out 3
          have c4 := cell_at (v := .slice ko' kl' kc') HBf.out 4 rfl
          have fc4 := froz_at HBf.out 4
          go_wp2_with fail
          refine (IL _ _ env t' S wl (HFT2.out.up HDL.out) HE.out HR1.out HS1.out HM1.out).mono ?_
          rintro e x2 ⟨x, rfl, ⟨ns, hx, hnz⟩, hb⟩
          clear c0 fc0 c1 fc1 c2 fc2 c3 fc3 c4 fc4
          replace HBf := kBV hb HBf
          replace HE := Lib.hid (HE.out.below hb)
          replace HW := Lib.hid (HW.out.trans (hb.mono HW.out.size))
          replace HROW := Lib.hid (HROW.out.below hb)
          replace HFT2 := Lib.hid (HFT2.out.below hb)
          have HAT := Lib.hid hx
          have HNZ := Lib.hid hnz
          clear hx hnz
          have HSZ2 : Hid (x1.heap.size ≤ x2.heap.size) := Lib.hid (Nat.le_trans HSZ.out hb.size)
          obtain ⟨xo, xn, xc, rfl⟩ : ∃ xo xn xc, x = .slice xo xn xc := by obtain ⟨_, _, e, _⟩ := HAT.out; exact ⟨_, _, _, e⟩
          go_wp2_with (at_builtin; refine El.Row.append (E := nE) HROW.out rfl (.tmp 49) (.tmp 52) rfl rfl rfl HAT.out (by have := HLEN.out; rw [← HNZ.out, List.length_map] at this; omega) HSZ2.out ?_; intro v9 w9 r1 r2 r3 r4; have HW9 := Lib.hid (HW.out.trans (r3.mono (Nat.le_trans hbf.out.size (Nat.le_refl _)))); have HR9 := Lib.hid r1; clear r1 r2 r3 r4)
          go_ret
          exact ⟨_, rfl, ⟨els ++ ns, HR9.out.at, by rw [HEQ.out, List.map_append, HNZ.out]⟩, HW9.out⟩
  · obtain ⟨b, ao, l, c, ko, kl, kc, rfl, ⟨-, hz, hkl, hkc, hkm⟩, -, hk⟩ := h.open
    obtain ⟨o, z, nm, ks⟩ := t
    simp only [F.op, F.num, F.name, F.kids] at hz hk hkl hs ho hloop ⊢
    rw [show d + 1 - 1 = d from rfl] at hk
    obtain ⟨hfit, hrs⟩ := rt_node hr
    have hkm' : kc ≤ 9223372036854775807 := hkm
    have HKL0 := Lib.hid hkl
    have ho2 : o = 8 ∨ o = 11 := by omega
    have HX := Lib.hid hk
    have HE := Lib.hid he
    have HW := Lib.hid (Below.refl w.heap.size w)
    clear h hkm hkl hkc hz hk he ho hloop hr hs
    rcases ho2 with rfl | rfl
    · clear hsm hrs hfit
      go_enter Try.func63, Try.ntmps63
      obtain ⟨x1, kf, ef, ekf, hbf, hkf, HBf⟩ := newV w #[.int .i64 8, .bool b, .slice ao l c, .string nm, .slice ko kl kc] 29
      replace HX := Lib.hid (HX.out.below hbf.out)
      replace HE := Lib.hid (HE.out.below hbf.out)
      replace HW := Lib.hid (HW.out.trans (hbf.out.mono HW.out.size))
      have c0 := cell_at (v := .int .i64 8) HBf.out 0 rfl
      have fc0 := froz_at HBf.out 0
      have c1 := cell_at (v := .bool b) HBf.out 1 rfl
      have fc1 := froz_at HBf.out 1
      have c2 := cell_at (v := .slice ao l c) HBf.out 2 rfl
      have fc2 := froz_at HBf.out 2
      have c3 := cell_at (v := .string nm) HBf.out 3 rfl
      have fc3 := froz_at HBf.out 3
      have c4 := cell_at (v := .slice ko kl kc) HBf.out 4 rfl
      have fc4 := froz_at HBf.out 4
      go_wp2_with fail
      refine (lookup_p _ env nm 2 x1 HE.out).mono ?_
      rintro e x2 ⟨v, rfl, hv, hb⟩
      clear c0 fc0 c1 fc1 c2 fc2 c3 fc3 c4 fc4
      replace HBf := kBV hb HBf
      replace HX := Lib.hid (HX.out.below hb)
      replace HE := Lib.hid (HE.out.below hb)
      replace HW := Lib.hid (HW.out.trans (hb.mono HW.out.size))
      obtain ⟨k1, b1, o1, l1, c1, d1, p1, m1, q1, rfl, hn⟩ := hv.lk2
      have HV := Lib.hid hn
      clear hv hn
      go_wp2_with fail
      go_ret
      exact ⟨_, rfl, HV.out, HW.out⟩
    · obtain ⟨p, rfl, hp⟩ := srts_one (ks := ks) (s := 2) (by simpa [fitF, kidsOk] using hfit)
      have HSP := Lib.hid (hsm.kid p (by simp))
      have HRP := Lib.hid (hrs p (by simp))
      have HP := Lib.hid hp
      have HEV : Hid (asL (ev (rho env) (.node 11 z nm [p])) = (asL (ev (rho env) p)).tail) := Lib.hid (by rw [ev, evs, evs]; rfl)
      have hkl1 : kl = 1 := HKL0.out
      subst hkl1
      clear hsm hrs hfit hp HKL0
      go_enter Try.func63, Try.ntmps63
      obtain ⟨x1, kf, ef, ekf, hbf, hkf, HBf⟩ := newV w #[.int .i64 11, .bool b, .slice ao l c, .string nm, .slice ko 1 kc] 29
      replace HX := Lib.hid (HX.out.below hbf.out)
      replace HE := Lib.hid (HE.out.below hbf.out)
      replace HW := Lib.hid (HW.out.trans (hbf.out.mono HW.out.size))
      have c0 := cell_at (v := .int .i64 11) HBf.out 0 rfl
      have fc0 := froz_at HBf.out 0
      have c1 := cell_at (v := .bool b) HBf.out 1 rfl
      have fc1 := froz_at HBf.out 1
      have c2 := cell_at (v := .slice ao l c) HBf.out 2 rfl
      have fc2 := froz_at HBf.out 2
      have c3 := cell_at (v := .string nm) HBf.out 3 rfl
      have fc3 := froz_at HBf.out 3
      have c4 := cell_at (v := .slice ko 1 kc) HBf.out 4 rfl
      have fc4 := froz_at HBf.out 4
      obtain ⟨a, bp, op, lp, cp, kop, klp, kcp, hkop, ⟨p0, p1, p2, p3, p4⟩, hfp⟩ := HX.out.first
      have HFP := Lib.hid hfp
      clear hfp
      obtain ⟨opp, hopp⟩ : ∃ x, x = p.op := ⟨_, rfl⟩
      obtain ⟨nmp, hnmp⟩ : ∃ x, x = p.name := ⟨_, rfl⟩
      rw [← hopp] at p0 HFP
      rw [← hnmp] at p3 HFP
      clear hopp hnmp
      subst hkop
      go_wp2_with fail
      refine (IL _ _ env p S x1 HFP.out HE.out HRP.out HP.out HSP.out).mono ?_
      rintro e x2 ⟨x, rfl, hx, hb⟩
      clear c0 fc0 c1 fc1 c2 fc2 c3 fc3 c4 fc4 p0 p1 p2 p3 p4
      replace HBf := kBV hb HBf
      replace HX := Lib.hid (HX.out.below hb)
      replace HE := Lib.hid (HE.out.below hb)
      replace HW := Lib.hid (HW.out.trans (hb.mono HW.out.size))
      replace HFP := Lib.hid (HFP.out.below hb)
      obtain ⟨xo, xc, hxe, ⟨hx1, hx2⟩, -⟩ := hx.form
      have hxm : xc ≤ 9223372036854775807 := hx2
      obtain ⟨n, hn⟩ : ∃ n, n = (asL (ev (rho env) p)).length := ⟨_, rfl⟩
      rw [← hn] at hxe hx1
      rw [hxe] at hx ⊢
      have hv := hx.tail
      clear hx hxe hx2 hn HFP
      unfold sliced at hv
      obtain ⟨m, hm⟩ : ∃ m, m = min 1 n := ⟨_, rfl⟩
      have hmi : min (1 : Int) ((n : Nat) : Int) = ((m : Nat) : Int) := by omega
      have hmn : m ≤ n := by omega
      rw [← hm] at hv
      clear hm
      by_cases hc : xc = m
      · rw [if_pos hc] at hv
        have HV := Lib.hid hv
        subst hc
        clear hv
        go_wp2_with fail
        go_ret
        exact ⟨_, rfl, by rw [HEV.out]; have := HV.out; rw [show n - xc = 0 by omega] at this; simpa using this, (by first | exact HW.out | (rw [← ekf]; exact HW.out))⟩
      · rw [if_neg hc] at hv
        have HV := Lib.hid hv
        clear hv
        go_wp2_with fail
        go_ret
        exact ⟨_, rfl, by rw [HEV.out]; have := HV.out; simpa using this, (by first | exact HW.out | (rw [← ekf]; exact HW.out))⟩
end Go.Proofs.Ytinfbmnimkcdjaa
