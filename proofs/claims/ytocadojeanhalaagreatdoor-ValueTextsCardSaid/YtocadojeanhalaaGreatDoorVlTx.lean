/-
  The law ValueTexts: its walk.
-/
import Derived.Test.YtocadojeanhalaaGreatDoorVlYt
namespace Go.Proofs.YtocadojeanhalaaGreatDoor
open Go.RowKit
set_option maxRecDepth 100000
set_option linter.unusedVariables false
set_option linter.unusedSimpArgs false

theorem vc_ofT {w : World} {u : VU} {v : Value} (h : vV u = v) (hR : VR w u) : VC w v u.x := ⟨u, h.symm, rfl, hR⟩
def LoopT (we : World) (n : Nat) (iv : Value) (wr : World) : Prop := ∃ j : Nat, iv = .int .i64 (j : Nat) ∧ j ≤ n ∧ Hid (Below we.heap.size we wr)
theorem El.At.cut {α : Type} {E : El α} {w : World} {ko : Option Addr} {n kc : Nat} {el : List α} (h : E.At w (.slice ko n kc) el) : E.At w (.slice ko n n) el := by
  obtain ⟨ko', kc', e, ⟨h1, h2, h3⟩, h4⟩ := h
  injection e with e1 e2 e3
  subst e1; subst e2; subst e3
  exact ⟨_, _, rfl, ⟨Nat.le_refl _, by omega, fun h => by have := h3 h; omega⟩, h4⟩
/-- A block whose first cells hold the elements. -/
theorem El.At.front {α : Type} {E : El α} {w : World} {g cap : Nat} {el : List α} {z : Array Value} (h : w.heap[g]? = some (.cells ((el.flatMap E.f).toArray ++ z) E.e (0, 0))) (hl : el.length ≤ cap) (hc : cap ≤ maxLen) (hR : ∀ a ∈ el, E.R w a) : E.At w (.slice (some ⟨g, 0, none⟩) el.length cap) el := by
  refine ⟨_, _, rfl, ⟨hl, hc, fun h => by cases h⟩, fun i hi => ⟨_, rfl, ⟨_, h⟩, fun j u hu => ?_, hR _ (List.getElem_mem hi)⟩⟩
  have hj : j < E.n := by have := (List.getElem?_eq_some_iff.1 hu).1; rwa [E.len] at this
  have hq : i * E.n + j < (el.flatMap E.f).length := by
    rw [flat_lenV E.f E.len]
    calc i * E.n + j < i * E.n + E.n := by omega
      _ = (i + 1) * E.n := by rw [Nat.add_mul]; omega
      _ ≤ el.length * E.n := Nat.mul_le_mul_right _ hi
  rw [add_litV, Nat.zero_add, cell_of_row w g _ _ _ _ h, Array.getElem?_append_left (by simpa using hq), List.getElem?_toArray, flat_atV E.f E.len el i j hi hj]
  exact hu
/-- Something is appended to a full list: into a block of its own. -/
theorem El.At.more {α : Type} {E : El α} {w : World} {ko : Option Addr} {n : Nat} {x : Value} {el ns : List α} (h : E.At w (.slice ko n n) el) (hx : E.At w x ns) (h0 : 0 < ns.length) (hlen : el.length + ns.length ≤ 1000000) (ty : TypeId) :
    ∃ v' w', (Builtin.append_ #[E.t, E.t] ty #[.slice ko n n, x]).run Tryz.prog w = .ok v' w' ∧ E.At w' v' (el ++ ns) ∧ Below w.heap.size w w' := by
  obtain ⟨i, hi, hz, hz1, hz2⟩ := info_parts E.info
  have ht := E.ht
  have hbyte := E.by_
  obtain ⟨xo, xc, rfl, hx1, hx2⟩ := id hx
  obtain ⟨a, rfl, -, -, hR0⟩ := hx2 0 h0
  have hnews := hx.news
  have hl : (ns.flatMap E.f).length = ns.length * i.size := by rw [hz1]; exact flat_lenV E.f E.len ns
  have hb2 : (el.length + ns.length) * i.bytes ≤ 140737488355328 := by
    rw [hz2]; exact Nat.le_trans (Nat.mul_le_mul hlen hbyte) (by decide)
  have hmx : el.length + ns.length ≤ maxLen := by unfold maxLen; omega
  have hR : ∀ b ∈ el ++ ns, E.R w b := fun b hb => by
    rcases List.mem_append.1 hb with hb | hb
    · obtain ⟨k, hk, rfl⟩ := List.getElem_of_mem hb
      obtain ⟨_, _, _, _, h5⟩ := h
      obtain ⟨_, _, _, _, h6⟩ := h5 k hk
      exact h6
    · obtain ⟨k, hk, rfl⟩ := List.getElem_of_mem hb
      obtain ⟨_, _, _, h6⟩ := hx2 k hk
      exact h6.2
  have hbl : ∀ o : Obj, Below w.heap.size w (w.drew.alloc o) := fun o => ((Below.refl _ _).drew).alloc (Nat.le_refl _) o
  have hn : n = el.length := by obtain ⟨_, _, e, _⟩ := h; injection e
  cases ko with
  | none =>
    have h00 : n = 0 := by obtain ⟨_, _, e, ⟨_, _, h3⟩, _⟩ := h; injection e with e1 e2 e3; rw [e3]; exact h3 e1.symm
    have he : el = [] := List.eq_nil_of_length_eq_zero (by omega)
    subst h00
    subst he
    have hr2 := run_append_nil (P := Tryz.prog) w E.t ty E.e i E.z ht hi hz a ns.length xc _ hl hnews h0 (by omega) (by rw [List.length_nil, Nat.zero_add] at hb2; omega)
    refine ⟨_, _, hr2, ?_, hbl _⟩
    exact El.At.front (el := ns) (heap_alloc_new w.drew _) (grownCap_ge ..) (grownCap_le_maxLen _ _ _ _ (by simpa using hmx)) (fun b hb => E.below (hR b (by simpa using hb)) (hbl _))
  | some b =>
    have hlo : (el.flatMap E.f).length = n * i.size := by rw [hz1, hn]; exact flat_lenV E.f E.len el
    have hr2 := run_append_grow (P := Tryz.prog) w E.t ty E.e i E.z ht hi hz b n n _ hlo h.news a ns.length xc _ hl hnews (by omega) (by omega) (growslice_fits (by omega) (by rw [hn]; exact hb2))
    refine ⟨_, _, hr2, ?_, hbl _⟩
    have e : (el.flatMap E.f).toArray ++ (ns.flatMap E.f).toArray = ((el ++ ns).flatMap E.f).toArray := by rw [List.flatMap_append]; simp
    have hh := heap_alloc_new w.drew (.cells ((el.flatMap E.f).toArray ++ (ns.flatMap E.f).toArray ++ Builtin.zeroCells E.z.cells (grownCap w (n + ns.length) n E.e - (n + ns.length))) E.e)
    rw [e] at hh
    have := El.At.front (el := el ++ ns) (cap := grownCap w (n + ns.length) n E.e) hh (by rw [List.length_append, ← hn]; exact grownCap_ge ..) (grownCap_le_maxLen _ _ _ _ (by rw [hn]; exact hmx)) (fun b hb => E.below (hR b hb) (hbl _))
    rw [List.length_append, ← hn] at this
    rw [e]
    exact this
theorem wp_append {o : Oper} {a : Act} {w w' : World} {v x v' : Value} {t : TypeId} {K : Act → World → Prop} {Q : Exit → Act → World → Prop} (s y : Operand)
    (ho : o.op = .call { callee := .builtin .append, args := #[s, y], argTypes := #[t, t] }) (hs : a.eval s = v) (hx : a.eval y = x) (hr : (Builtin.append_ #[t, t] o.type #[v, x]).run Tryz.prog w = .ok v' w') (hK : K (a.put o.dst v') w') : o.wp Tryz.prog a w K Q := by
  unfold Oper.wp execOp
  simp only [ho, resolve, invoke, builtin, Sem.run_bind, Sem.run_pure, Result.andThen_ok, List.map_toArray, List.map_cons, List.map_nil, hs, hx, hr]
  exact hK
theorem one_true {w : World} {g : Nat} (hB : w.heap[g]? = some (.cells #[.int .i64 1, .bool false, .slice none 0 0, .bool true, .slice none 0 0] 32 (0, 0))) : VL w (.slice (some ⟨g, 0, none⟩) 1 1) [.B true] :=
  ⟨[⟨1, n0, true, none, 0, 0, .B true⟩], one_atV hB rfl ⟨rfl, rfl, rfl, rfl, rfl, rfl⟩, rfl⟩
theorem VL.more {w : World} {ko : Option Addr} {n : Nat} {x : Value} {el ns : List V} (h : VL w (.slice ko n n) el) (hx : VL w x ns) (h0 : 0 < ns.length) (hlen : el.length + ns.length ≤ 1000000) (ty : TypeId) :
    ∃ v' w', (Builtin.append_ #[vE.t, vE.t] ty #[.slice ko n n, x]).run Tryz.prog w = .ok v' w' ∧ VL w' v' (el ++ ns) ∧ Below w.heap.size w w' := by
  obtain ⟨us, h1, rfl⟩ := h
  obtain ⟨ys, h2, rfl⟩ := hx
  obtain ⟨v', w', hr, h3, h4⟩ := h1.more h2 (by simpa using h0) (by simpa using hlen) ty
  exact ⟨v', w', hr, ⟨_, h3, by simp⟩, h4⟩
theorem VL.cut {w : World} {ko : Option Addr} {n kc : Nat} {el : List V} (h : VL w (.slice ko n kc) el) : VL w (.slice ko n n) el := by
  obtain ⟨us, h1, h2⟩ := h
  exact ⟨us, h1.cut, h2⟩
set_option maxHeartbeats 40000000 in
theorem texts_walk (ko : Option Addr) (n0 kc0 : Nat) (we : World) (m : Int) (hm : we.cell? ⟨0, 0, none⟩ = some (.int .i64 m)) (hx : RVals we ko n0 kc0) (htab : Lib.TabIs Tryz.prog we "internal/strconv.uint64pow10" .u64 Lib.pow10Tab) :
    Calls Tryz.prog 3 #[.slice ko n0 kc0] we fun e w' => e = .returned (.bool true) ∧ Below we.heap.size we w' := by
  have HX := Lib.hid hx
  have HTB := Lib.hid htab
  have HMX := Lib.hid hm
  clear hx htab hm
  go_enter Tryz.func3, Tryz.ntmps3
  go_wp2_with fail
  refine (fitV we HTB.out).mono ?_
  rintro e w0 ⟨rfl, hb⟩
  have HW := Lib.hid hb
  clear hb
  go_wp2_with fail
  refine (tame_p ko n0 kc0 w0 (HX.out.below HW.out)).mono ?_
  rintro e w1 ⟨v, rs, rfl, hv, hl5, htv, hb⟩
  replace HW := Lib.hid (HW.out.trans (hb.mono HW.out.size))
  obtain ⟨lo, lc, rfl, ⟨hq1, hq2⟩, -⟩ := hv.form
  have HL := Lib.hid hv
  have HTV := Lib.hid htv
  obtain ⟨n, hn⟩ : ∃ n, n = rs.length := ⟨_, rfl⟩
  rw [← hn] at HL hq1 hl5 ⊢
  have hmx : lc ≤ 9223372036854775807 := hq2
  have HN := Lib.hid hn
  clear hb hv hn htv
  go_wp2_with fail
  go_loopw [15] (LoopT w1 n) (fun i _ => n - (intOf i).toNat)
  case atStart => exact ⟨0, rfl, Nat.zero_le _, Lib.hid (Below.refl _ _)⟩
  case round =>
    obtain ⟨i, rfl, hi, HI⟩ := hrel
    by_cases hlt : i < n
    · obtain ⟨wa, rfl⟩ : ∃ q, q = wr := ⟨_, rfl⟩
      have HWI : Hid (Below we.heap.size we wa) := Lib.hid (HW.out.trans (HI.out.mono HW.out.size))
      have hza : i < rs.length := by rw [← HN.out]; exact hlt
      obtain ⟨aa, au, ak, ab, ao, al, ac, ad, ap, am, aq, are, hne, ⟨c0, c1, c2, c3, c4⟩, hnx, hnr, hnv⟩ := (HL.out.below HI.out).unitAt hza
      subst are
      have HAV : Hid (TV au.x) := Lib.hid (by rw [hnx]; exact HTV.out _ (List.getElem_mem _))
      have HAC : Hid (VC wa (.agg #[.int .i64 ak, .bool ab, .slice ao al ac, .bool ad, .slice ap am aq]) au.x) := Lib.hid (vc_ofT hnv hnr)
      clear hne hnr hnv hnx
      obtain ⟨x11, k4, e4, ek4, hb4, hk4, HB4⟩ := newV wa #[.int .i64 ak, .bool ab, .slice ao al ac, .bool ad, .slice ap am aq] 32
      replace HI := Lib.hid (HI.out.trans (hb4.out.mono HI.out.size))
      replace HWI := Lib.hid (HWI.out.trans (hb4.out.mono HWI.out.size))
      replace HAC := Lib.hid (VC.below HAC.out hb4.out)
      have g0 := cell_at (v := .int .i64 ak) HB4.out 0 rfl
      have fg0 := froz_at HB4.out 0
      have g1 := cell_at (v := .bool ab) HB4.out 1 rfl
      have fg1 := froz_at HB4.out 1
      have g2 := cell_at (v := .slice ao al ac) HB4.out 2 rfl
      have fg2 := froz_at HB4.out 2
      have g3 := cell_at (v := .bool ad) HB4.out 3 rfl
      have fg3 := froz_at HB4.out 3
      have g4 := cell_at (v := .slice ap am aq) HB4.out 4 rfl
      have fg4 := froz_at HB4.out 4
      go_wp2_with fail
      clear c0 c1 c2 c3 c4
      refine (text_p _ au.x x11 (tab_below HTB.out HWI.out) HAC.out (tv_len HAV.out).2).mono ?_
      rintro e x12 ⟨rfl, hb⟩
      clear g0 fg0 g1 fg1 g2 fg2 g3 fg3 g4 fg4
      replace HB4 := kBV hb HB4
      replace HI := Lib.hid (HI.out.trans (hb.mono HI.out.size))
      replace HWI := Lib.hid (HWI.out.trans (hb.mono HWI.out.size))
      replace HAC := Lib.hid (VC.below HAC.out hb)
      clear hb
      go_wp2_with fail
      refine (parseV_p (vText au.x) x12 m (by rw [HWI.out.cell (cell_lt HMX.out)]; exact HMX.out) (tv_len HAV.out).1).mono ?_
      rintro e x30 ⟨v, o, rfl, hb, hpost⟩
      replace HB4 := kBV hb HB4
      replace HI := Lib.hid (HI.out.trans (hb.mono HI.out.size))
      replace HWI := Lib.hid (HWI.out.trans (hb.mono HWI.out.size))
      replace HAC := Lib.hid (VC.below HAC.out hb)
      clear hb
      rcases hpost with ⟨rfl, x, hc, hxt, hx7⟩ | ⟨rfl, rfl, hng⟩
      · obtain rfl := vtext_inj hxt
        clear hxt hx7
        have HC := Lib.hid hc
        obtain ⟨u, uk, ub, uo, ul, uc, ud, up, um, uq, rfl, hue, hux, hur⟩ := hc.unit
        clear hc hue hux hur
        obtain ⟨x31, k5, e5, ek5, hb5, hk5, HB5⟩ := newV x30 #[.int .i64 uk, .bool ub, .slice uo ul uc, .bool ud, .slice up um uq] 32
        replace HB4 := kBV hb5.out HB4
        replace HI := Lib.hid (HI.out.trans (hb5.out.mono HI.out.size))
        replace HWI := Lib.hid (HWI.out.trans (hb5.out.mono HWI.out.size))
        replace HAC := Lib.hid (VC.below HAC.out hb5.out)
        replace HC := Lib.hid (VC.below HC.out hb5.out)
        have g0 := cell_at (v := .int .i64 ak) HB4.out 0 rfl
        have fg0 := froz_at HB4.out 0
        have g1 := cell_at (v := .bool ab) HB4.out 1 rfl
        have fg1 := froz_at HB4.out 1
        have g2 := cell_at (v := .slice ao al ac) HB4.out 2 rfl
        have fg2 := froz_at HB4.out 2
        have g3 := cell_at (v := .bool ad) HB4.out 3 rfl
        have fg3 := froz_at HB4.out 3
        have g4 := cell_at (v := .slice ap am aq) HB4.out 4 rfl
        have fg4 := froz_at HB4.out 4
        have h0 := cell_at (v := .int .i64 uk) HB5.out 0 rfl
        have fh0 := froz_at HB5.out 0
        have h1 := cell_at (v := .bool ub) HB5.out 1 rfl
        have fh1 := froz_at HB5.out 1
        have h2 := cell_at (v := .slice uo ul uc) HB5.out 2 rfl
        have fh2 := froz_at HB5.out 2
        have h3 := cell_at (v := .bool ud) HB5.out 3 rfl
        have fh3 := froz_at HB5.out 3
        have h4 := cell_at (v := .slice up um uq) HB5.out 4 rfl
        have fh4 := froz_at HB5.out 4
        go_wp2_with fail
        refine (same_p _ _ au.x au.x x31 HAC.out HC.out).mono ?_
        rintro e x32 ⟨rfl, hb⟩
        clear g0 fg0 g1 fg1 g2 fg2 g3 fg3 g4 fg4 h0 fh0 h1 fh1 h2 fh2 h3 fh3 h4 fh4
        replace HB4 := kBV hb HB4
        replace HB5 := kBV hb HB5
        replace HI := Lib.hid (HI.out.trans (hb.mono HI.out.size))
        replace HWI := Lib.hid (HWI.out.trans (hb.mono HWI.out.size))
        replace HAC := Lib.hid (VC.below HAC.out hb)
        replace HC := Lib.hid (VC.below HC.out hb)
        clear hb HB5 HC
        rw [show decide (au.x = au.x) = true from decide_eq_true rfl]
        go_wp2_with fail
        go_loopw [35] (LoopT x32 n) (fun i _ => n - (intOf i).toNat)
        case atStart => exact ⟨0, rfl, Nat.zero_le _, Lib.hid (Below.refl _ _)⟩
        case round =>
          obtain ⟨j, rfl, hj, HJ⟩ := hrel
          by_cases hlt2 : j < n
          · obtain ⟨wb, rfl⟩ : ∃ q, q = wr := ⟨_, rfl⟩
            have HB4 := kBV HJ.out HB4
            have HI := Lib.hid (HI.out.trans (HJ.out.mono HI.out.size))
            have HWI := Lib.hid (HWI.out.trans (HJ.out.mono HWI.out.size))
            have HAC := Lib.hid (VC.below HAC.out HJ.out)
            have hzb : j < rs.length := by rw [← HN.out]; exact hlt2
            obtain ⟨ba, bu, bk, bb, bo, bl, bc, bd, bp, bm, bq, bre, hne, ⟨c0, c1, c2, c3, c4⟩, hnx, hnr, hnv⟩ := (HL.out.below HI.out).unitAt hzb
            injection bre with bre
            subst bre
            have HBV : Hid (TV bu.x) := Lib.hid (by rw [hnx]; exact HTV.out _ (List.getElem_mem _))
            have HBC : Hid (VC wb (.agg #[.int .i64 bk, .bool bb, .slice bo bl bc, .bool bd, .slice bp bm bq]) bu.x) := Lib.hid (vc_ofT hnv hnr)
            clear hne hnr hnv hnx
            obtain ⟨x61, k6, e6, ek6, hb6, hk6, HB6⟩ := newV wb #[.int .i64 bk, .bool bb, .slice bo bl bc, .bool bd, .slice bp bm bq] 32
            replace HB4 := kBV hb6.out HB4
            replace HI := Lib.hid (HI.out.trans (hb6.out.mono HI.out.size))
            replace HWI := Lib.hid (HWI.out.trans (hb6.out.mono HWI.out.size))
            replace HAC := Lib.hid (VC.below HAC.out hb6.out)
            replace HJ := Lib.hid (HJ.out.trans (hb6.out.mono HJ.out.size))
            replace HBC := Lib.hid (VC.below HBC.out hb6.out)
            by_cases hab : au.x = bu.x
            · have hdab : decide (au.x = bu.x) = true := decide_eq_true hab
              have htx : vText bu.x = vText au.x := by rw [hab]
              clear hab
              have HTX := Lib.hid htx
              clear htx
              go_upto_region 13 with fail
              have hlt_4 := lt_of_block HB4.out
              have hlt_6 := lt_of_block HB6.out
              have hog : Hid (∀ q, q < 0 → (fun q => 0) q < x61.heap.size) := Lib.hid (fun q h => absurd h (Nat.not_lt_zero _))
              refine Rel7.region (by kernel_rfl) [[], [], [0, 1], [], [0, 1, 2, 3], [], [0, 1, 2, 3, 4, 5], [0, 1, 2, 3, 4, 5, 6], [0, 1, 2, 3, 4, 5, 6, 7]] [] [] (fun q => 0) 0 9 (by kernel_rfl) (by kernel_rfl) (by rfl) hog.out (fun q q' h h' hn => absurd hn (by omega)) ?_
              refine Rel7.Chain.det ?_ (by rfl) (fun T xs wr hA => ?_) ?_
              rotate_left 1
              · have e4 := hA.pre 4 (by kernel_rfl)
                simp only [List.getElem?_toArray, List.getElem?_cons_succ, List.getElem?_cons_zero] at e4
                have hBq : wr.heap[k4]? = _ := (hA.bl _ hlt_4 (fun q h => absurd h (Nat.not_lt_zero _))).trans HB4.out
                have q0 := cell_at (v := .int .i64 ak) hBq 0 rfl
                have q1 := cell_at (v := .bool ab) hBq 1 rfl
                have q2 := cell_at (v := .slice ao al ac) hBq 2 rfl
                have q3 := cell_at (v := .bool ad) hBq 3 rfl
                have q4 := cell_at (v := .slice ap am aq) hBq 4 rfl
                clear hBq
                clear hA
                refine ⟨(by rfl), ?_⟩
                go_simp <;> (try with_reducible rfl)
              refine Rel7.Chain.det ?_ (by rfl) (fun T xs wr hA => ?_) ?_
              rotate_left 1
              · have e8 := hA.pre 8 (by kernel_rfl)
                simp only [List.getElem?_toArray, List.getElem?_cons_succ, List.getElem?_cons_zero] at e8
                have hBq : wr.heap[k6]? = _ := (hA.bl _ hlt_6 (fun q h => absurd h (Nat.not_lt_zero _))).trans HB6.out
                have q0 := cell_at (v := .int .i64 bk) hBq 0 rfl
                have q1 := cell_at (v := .bool bb) hBq 1 rfl
                have q2 := cell_at (v := .slice bo bl bc) hBq 2 rfl
                have q3 := cell_at (v := .bool bd) hBq 3 rfl
                have q4 := cell_at (v := .slice bp bm bq) hBq 4 rfl
                clear hBq
                clear hA
                refine ⟨(by rfl), ?_⟩
                go_simp <;> (try with_reducible rfl)
              refine Rel7.Chain.call (fun xs v w => v = .bool true) (fun _ _ _ _ h _ => h) (fun _ _ _ _ _ h _ _ => h) (by rfl) (fun T xs wr hA => ?_) ?_
              · have hsw := (hA.be 0 (Nat.zero_le _) (fun _ _ => Nat.zero_le _)).size
                have e39 := hA.tm 0 39 (by rfl) (by rfl)
                have f39 : xs 0 = _ := hA.fa 0 (by rfl)
                (try simp (disch := first | rfl | decide) only [Rel7.mask_in] at f39)
                rw [f39] at e39
                clear f39
                have e40 := hA.tm 1 40 (by rfl) (by rfl)
                have f40 : xs 1 = _ := hA.fa 1 (by rfl)
                (try simp (disch := first | rfl | decide) only [Rel7.mask_in] at f40)
                rw [f40] at e40
                clear f40
                have hbw := undrew (hA.be x61.heap.size (Nat.le_refl _) (fun q h => absurd h (Nat.not_lt_zero q)))
                clear hA
                refine ⟨(by rfl), fun K hK => ?_⟩
                go_simp
                refine (same_p _ _ au.x bu.x wr (VC.below HAC.out hbw) (VC.below HBC.out hbw)).mono ?_
                rintro e w' ⟨rfl, hb'⟩
                exact hK.out _ _ (by rw [hdab]) hb'
              refine Rel7.Chain.det ?_ (by rfl) (fun T xs wr hA => ?_) ?_
              rotate_left 1
              · have e4 := hA.pre 4 (by kernel_rfl)
                simp only [List.getElem?_toArray, List.getElem?_cons_succ, List.getElem?_cons_zero] at e4
                have hBq : wr.heap[k4]? = _ := (hA.bl _ hlt_4 (fun q h => absurd h (Nat.not_lt_zero _))).trans HB4.out
                have q0 := cell_at (v := .int .i64 ak) hBq 0 rfl
                have q1 := cell_at (v := .bool ab) hBq 1 rfl
                have q2 := cell_at (v := .slice ao al ac) hBq 2 rfl
                have q3 := cell_at (v := .bool ad) hBq 3 rfl
                have q4 := cell_at (v := .slice ap am aq) hBq 4 rfl
                clear hBq
                clear hA
                refine ⟨(by rfl), ?_⟩
                go_simp <;> (try with_reducible rfl)
              refine Rel7.Chain.call (fun xs v w => v = .string ⟨(vText au.x).toArray⟩) (fun _ _ _ _ h _ => h) (fun _ _ _ _ _ h _ _ => h) (by rfl) (fun T xs wr hA => ?_) ?_
              · have hsw := (hA.be 0 (Nat.zero_le _) (fun _ _ => Nat.zero_le _)).size
                have e42 := hA.tm 3 42 (by rfl) (by rfl)
                have f42 : xs 3 = _ := hA.fa 3 (by rfl)
                (try simp (disch := first | rfl | decide) only [Rel7.mask_in] at f42)
                rw [f42] at e42
                clear f42
                have hbw := undrew (hA.be x61.heap.size (Nat.le_refl _) (fun q h => absurd h (Nat.not_lt_zero q)))
                clear hA
                refine ⟨(by rfl), fun K hK => ?_⟩
                go_simp
                refine (text_p _ au.x wr (tab_below HTB.out (HWI.out.trans (hbw.mono HWI.out.size))) (VC.below HAC.out hbw) (tv_len HAV.out).2).mono ?_
                rintro e w' ⟨rfl, hb'⟩
                exact hK.out _ _ rfl hb'
              refine Rel7.Chain.det ?_ (by rfl) (fun T xs wr hA => ?_) ?_
              rotate_left 1
              · have e8 := hA.pre 8 (by kernel_rfl)
                simp only [List.getElem?_toArray, List.getElem?_cons_succ, List.getElem?_cons_zero] at e8
                have hBq : wr.heap[k6]? = _ := (hA.bl _ hlt_6 (fun q h => absurd h (Nat.not_lt_zero _))).trans HB6.out
                have q0 := cell_at (v := .int .i64 bk) hBq 0 rfl
                have q1 := cell_at (v := .bool bb) hBq 1 rfl
                have q2 := cell_at (v := .slice bo bl bc) hBq 2 rfl
                have q3 := cell_at (v := .bool bd) hBq 3 rfl
                have q4 := cell_at (v := .slice bp bm bq) hBq 4 rfl
                clear hBq
                clear hA
                refine ⟨(by rfl), ?_⟩
                go_simp <;> (try with_reducible rfl)
              refine Rel7.Chain.call (fun xs v w => v = .string ⟨(vText au.x).toArray⟩) (fun _ _ _ _ h _ => h) (fun _ _ _ _ _ h _ _ => h) (by rfl) (fun T xs wr hA => ?_) ?_
              · have hsw := (hA.be 0 (Nat.zero_le _) (fun _ _ => Nat.zero_le _)).size
                have e44 := hA.tm 5 44 (by rfl) (by rfl)
                have f44 : xs 5 = _ := hA.fa 5 (by rfl)
                (try simp (disch := first | rfl | decide) only [Rel7.mask_in] at f44)
                rw [f44] at e44
                clear f44
                have hbw := undrew (hA.be x61.heap.size (Nat.le_refl _) (fun q h => absurd h (Nat.not_lt_zero q)))
                clear hA
                refine ⟨(by rfl), fun K hK => ?_⟩
                go_simp
                refine (text_p _ bu.x wr (tab_below HTB.out (HWI.out.trans (hbw.mono HWI.out.size))) (VC.below HBC.out hbw) (tv_len HBV.out).2).mono ?_
                rintro e w' ⟨rfl, hb'⟩
                exact hK.out _ _ (by rw [HTX.out]) hb'
              refine Rel7.Chain.det ?_ (by rfl) (fun T xs wr hA => ?_) ?_
              rotate_left 1
              · have e43 := hA.tm 4 43 (by rfl) (by rfl)
                have f43 : xs 4 = (.string ⟨(vText au.x).toArray⟩) := hA.fa 4 (by rfl)
                rw [f43] at e43
                clear f43
                have e45 := hA.tm 6 45 (by rfl) (by rfl)
                have f45 : xs 6 = (.string ⟨(vText au.x).toArray⟩) := hA.fa 6 (by rfl)
                rw [f45] at e45
                clear f45
                clear hA
                refine ⟨(by rfl), ?_⟩
                go_simp <;> (try with_reducible rfl)
              refine Rel7.Chain.det ?_ (by rfl) (fun T xs wr hA => ?_) ?_
              rotate_left 1
              · have e41 := hA.tm 2 41 (by rfl) (by rfl)
                have f41 : xs 2 = (.bool true) := hA.fa 2 (by rfl)
                rw [f41] at e41
                clear f41
                have e46 := hA.tm 7 46 (by rfl) (by rfl)
                have f46 : xs 7 = _ := hA.fa 7 (by rfl)
                (try simp (disch := first | rfl | decide) only [Rel7.mask_in] at f46)
                rw [f46] at e46
                clear f46
                clear hA
                refine ⟨(by rfl), ?_⟩
                go_simp <;> (try with_reducible rfl)
              refine Rel7.Chain.done (fun xs x62 hL => ?_)
              obtain ⟨⟨hbe, hbl⟩, hf, -, -⟩ := hL
              have f0 : xs 0 = _ := hf 0 (by decide)
              (try simp (disch := first | rfl | decide) only [Rel7.mask_in] at f0)
              have f1 : xs 1 = _ := hf 1 (by decide)
              (try simp (disch := first | rfl | decide) only [Rel7.mask_in] at f1)
              have f2 : xs 2 = (.bool true) := hf 2 (by decide)
              have f3 : xs 3 = _ := hf 3 (by decide)
              (try simp (disch := first | rfl | decide) only [Rel7.mask_in] at f3)
              have f4 : xs 4 = (.string ⟨(vText au.x).toArray⟩) := hf 4 (by decide)
              have f5 : xs 5 = _ := hf 5 (by decide)
              (try simp (disch := first | rfl | decide) only [Rel7.mask_in] at f5)
              have f6 : xs 6 = (.string ⟨(vText au.x).toArray⟩) := hf 6 (by decide)
              have f7 : xs 7 = _ := hf 7 (by decide)
              (try simp (disch := first | rfl | decide) only [Rel7.mask_in] at f7)
              have f8 : xs 8 = _ := hf 8 (by decide)
              (try simp (disch := first | rfl | decide) only [Rel7.mask_in] at f8)
              have hb0 : Below 0 x61 x62 := undrew (hbe 0 (Nat.zero_le _) (fun _ _ => Nat.zero_le _))
              have hgr : ∀ j, j < x61.heap.size → (∀ q, q < 0 → (fun q => 0) q ≠ j) → x62.heap[j]? = x61.heap[j]? := hbl
              clear hbe hbl hf
              have hb : Below x61.heap.size x61 x62 := ⟨hb0.os, hb0.tape, hb0.output, hb0.size, fun q hq => hgr q hq (fun q h => absurd h (Nat.not_lt_zero _))⟩
              refine Rel7.rest_done ?_
              simp only [Rel7.fill, List.setIfInBounds_toArray, List.set_cons_zero, List.set_cons_succ, f0, f1, f2, f3, f4, f5, f6, f7, f8]
              clear hb0 hgr hog hlt_4 hlt_6 f0 f1 f2 f3 f4 f5 f6 f7 f8
              replace HB4 := kBV hb HB4
              replace HB6 := kBV hb HB6
              replace HI := Lib.hid (HI.out.trans (hb.mono HI.out.size))
              replace HWI := Lib.hid (HWI.out.trans (hb.mono HWI.out.size))
              replace HAC := Lib.hid (VC.below HAC.out hb)
              replace HJ := Lib.hid (HJ.out.trans (hb.mono HJ.out.size))
              replace HBC := Lib.hid (VC.below HBC.out hb)
              replace hb := Lib.hid hb
              go_wp2_with fail
              go_roundw
              case rel => exact ⟨j + 1, by go_num, hlt2, HJ⟩
              case measure => simp [intOf]; omega
            · have hdab : decide (au.x = bu.x) = false := decide_eq_false hab
              have htn : ¬ vText au.x = vText bu.x := fun h => hab (vtext_inj h)
              have hte : (vText au.x == vText bu.x) = false := beq_eq_false_iff_ne.2 htn
              clear hab
              have HTX := Lib.hid htn
              clear htn
              go_upto_region 13 with fail
              have hlt_4 := lt_of_block HB4.out
              have hlt_6 := lt_of_block HB6.out
              have hog : Hid (∀ q, q < 0 → (fun q => 0) q < x61.heap.size) := Lib.hid (fun q h => absurd h (Nat.not_lt_zero _))
              refine Rel7.region (by kernel_rfl) [[], [], [0, 1], [], [0, 1, 2, 3], [], [0, 1, 2, 3, 4, 5], [0, 1, 2, 3, 4, 5, 6], [0, 1, 2, 3, 4, 5, 6, 7]] [] [] (fun q => 0) 0 9 (by kernel_rfl) (by kernel_rfl) (by rfl) hog.out (fun q q' h h' hn => absurd hn (by omega)) ?_
              refine Rel7.Chain.det ?_ (by rfl) (fun T xs wr hA => ?_) ?_
              rotate_left 1
              · have e4 := hA.pre 4 (by kernel_rfl)
                simp only [List.getElem?_toArray, List.getElem?_cons_succ, List.getElem?_cons_zero] at e4
                have hBq : wr.heap[k4]? = _ := (hA.bl _ hlt_4 (fun q h => absurd h (Nat.not_lt_zero _))).trans HB4.out
                have q0 := cell_at (v := .int .i64 ak) hBq 0 rfl
                have q1 := cell_at (v := .bool ab) hBq 1 rfl
                have q2 := cell_at (v := .slice ao al ac) hBq 2 rfl
                have q3 := cell_at (v := .bool ad) hBq 3 rfl
                have q4 := cell_at (v := .slice ap am aq) hBq 4 rfl
                clear hBq
                clear hA
                refine ⟨(by rfl), ?_⟩
                go_simp <;> (try with_reducible rfl)
              refine Rel7.Chain.det ?_ (by rfl) (fun T xs wr hA => ?_) ?_
              rotate_left 1
              · have e8 := hA.pre 8 (by kernel_rfl)
                simp only [List.getElem?_toArray, List.getElem?_cons_succ, List.getElem?_cons_zero] at e8
                have hBq : wr.heap[k6]? = _ := (hA.bl _ hlt_6 (fun q h => absurd h (Nat.not_lt_zero _))).trans HB6.out
                have q0 := cell_at (v := .int .i64 bk) hBq 0 rfl
                have q1 := cell_at (v := .bool bb) hBq 1 rfl
                have q2 := cell_at (v := .slice bo bl bc) hBq 2 rfl
                have q3 := cell_at (v := .bool bd) hBq 3 rfl
                have q4 := cell_at (v := .slice bp bm bq) hBq 4 rfl
                clear hBq
                clear hA
                refine ⟨(by rfl), ?_⟩
                go_simp <;> (try with_reducible rfl)
              refine Rel7.Chain.call (fun xs v w => v = .bool false) (fun _ _ _ _ h _ => h) (fun _ _ _ _ _ h _ _ => h) (by rfl) (fun T xs wr hA => ?_) ?_
              · have hsw := (hA.be 0 (Nat.zero_le _) (fun _ _ => Nat.zero_le _)).size
                have e39 := hA.tm 0 39 (by rfl) (by rfl)
                have f39 : xs 0 = _ := hA.fa 0 (by rfl)
                (try simp (disch := first | rfl | decide) only [Rel7.mask_in] at f39)
                rw [f39] at e39
                clear f39
                have e40 := hA.tm 1 40 (by rfl) (by rfl)
                have f40 : xs 1 = _ := hA.fa 1 (by rfl)
                (try simp (disch := first | rfl | decide) only [Rel7.mask_in] at f40)
                rw [f40] at e40
                clear f40
                have hbw := undrew (hA.be x61.heap.size (Nat.le_refl _) (fun q h => absurd h (Nat.not_lt_zero q)))
                clear hA
                refine ⟨(by rfl), fun K hK => ?_⟩
                go_simp
                refine (same_p _ _ au.x bu.x wr (VC.below HAC.out hbw) (VC.below HBC.out hbw)).mono ?_
                rintro e w' ⟨rfl, hb'⟩
                exact hK.out _ _ (by rw [hdab]) hb'
              refine Rel7.Chain.det ?_ (by rfl) (fun T xs wr hA => ?_) ?_
              rotate_left 1
              · have e4 := hA.pre 4 (by kernel_rfl)
                simp only [List.getElem?_toArray, List.getElem?_cons_succ, List.getElem?_cons_zero] at e4
                have hBq : wr.heap[k4]? = _ := (hA.bl _ hlt_4 (fun q h => absurd h (Nat.not_lt_zero _))).trans HB4.out
                have q0 := cell_at (v := .int .i64 ak) hBq 0 rfl
                have q1 := cell_at (v := .bool ab) hBq 1 rfl
                have q2 := cell_at (v := .slice ao al ac) hBq 2 rfl
                have q3 := cell_at (v := .bool ad) hBq 3 rfl
                have q4 := cell_at (v := .slice ap am aq) hBq 4 rfl
                clear hBq
                clear hA
                refine ⟨(by rfl), ?_⟩
                go_simp <;> (try with_reducible rfl)
              refine Rel7.Chain.call (fun xs v w => v = .string ⟨(vText au.x).toArray⟩) (fun _ _ _ _ h _ => h) (fun _ _ _ _ _ h _ _ => h) (by rfl) (fun T xs wr hA => ?_) ?_
              · have hsw := (hA.be 0 (Nat.zero_le _) (fun _ _ => Nat.zero_le _)).size
                have e42 := hA.tm 3 42 (by rfl) (by rfl)
                have f42 : xs 3 = _ := hA.fa 3 (by rfl)
                (try simp (disch := first | rfl | decide) only [Rel7.mask_in] at f42)
                rw [f42] at e42
                clear f42
                have hbw := undrew (hA.be x61.heap.size (Nat.le_refl _) (fun q h => absurd h (Nat.not_lt_zero q)))
                clear hA
                refine ⟨(by rfl), fun K hK => ?_⟩
                go_simp
                refine (text_p _ au.x wr (tab_below HTB.out (HWI.out.trans (hbw.mono HWI.out.size))) (VC.below HAC.out hbw) (tv_len HAV.out).2).mono ?_
                rintro e w' ⟨rfl, hb'⟩
                exact hK.out _ _ rfl hb'
              refine Rel7.Chain.det ?_ (by rfl) (fun T xs wr hA => ?_) ?_
              rotate_left 1
              · have e8 := hA.pre 8 (by kernel_rfl)
                simp only [List.getElem?_toArray, List.getElem?_cons_succ, List.getElem?_cons_zero] at e8
                have hBq : wr.heap[k6]? = _ := (hA.bl _ hlt_6 (fun q h => absurd h (Nat.not_lt_zero _))).trans HB6.out
                have q0 := cell_at (v := .int .i64 bk) hBq 0 rfl
                have q1 := cell_at (v := .bool bb) hBq 1 rfl
                have q2 := cell_at (v := .slice bo bl bc) hBq 2 rfl
                have q3 := cell_at (v := .bool bd) hBq 3 rfl
                have q4 := cell_at (v := .slice bp bm bq) hBq 4 rfl
                clear hBq
                clear hA
                refine ⟨(by rfl), ?_⟩
                go_simp <;> (try with_reducible rfl)
              refine Rel7.Chain.call (fun xs v w => v = .string ⟨(vText bu.x).toArray⟩) (fun _ _ _ _ h _ => h) (fun _ _ _ _ _ h _ _ => h) (by rfl) (fun T xs wr hA => ?_) ?_
              · have hsw := (hA.be 0 (Nat.zero_le _) (fun _ _ => Nat.zero_le _)).size
                have e44 := hA.tm 5 44 (by rfl) (by rfl)
                have f44 : xs 5 = _ := hA.fa 5 (by rfl)
                (try simp (disch := first | rfl | decide) only [Rel7.mask_in] at f44)
                rw [f44] at e44
                clear f44
                have hbw := undrew (hA.be x61.heap.size (Nat.le_refl _) (fun q h => absurd h (Nat.not_lt_zero q)))
                clear hA
                refine ⟨(by rfl), fun K hK => ?_⟩
                go_simp
                refine (text_p _ bu.x wr (tab_below HTB.out (HWI.out.trans (hbw.mono HWI.out.size))) (VC.below HBC.out hbw) (tv_len HBV.out).2).mono ?_
                rintro e w' ⟨rfl, hb'⟩
                exact hK.out _ _ (rfl) hb'
              refine Rel7.Chain.det ?_ (by rfl) (fun T xs wr hA => ?_) ?_
              rotate_left 1
              · have e43 := hA.tm 4 43 (by rfl) (by rfl)
                have f43 : xs 4 = (.string ⟨(vText au.x).toArray⟩) := hA.fa 4 (by rfl)
                rw [f43] at e43
                clear f43
                have e45 := hA.tm 6 45 (by rfl) (by rfl)
                have f45 : xs 6 = (.string ⟨(vText bu.x).toArray⟩) := hA.fa 6 (by rfl)
                rw [f45] at e45
                clear f45
                clear hA
                refine ⟨(by rfl), ?_⟩
                go_simp <;> (try with_reducible rfl)
              refine Rel7.Chain.det ?_ (by rfl) (fun T xs wr hA => ?_) ?_
              rotate_left 1
              · have e41 := hA.tm 2 41 (by rfl) (by rfl)
                have f41 : xs 2 = (.bool false) := hA.fa 2 (by rfl)
                rw [f41] at e41
                clear f41
                have e46 := hA.tm 7 46 (by rfl) (by rfl)
                have f46 : xs 7 = _ := hA.fa 7 (by rfl)
                (try simp (disch := first | rfl | decide) only [Rel7.mask_in] at f46)
                rw [f46] at e46
                clear f46
                clear hA
                refine ⟨(by rfl), ?_⟩
                go_simp <;> (try with_reducible rfl)
              refine Rel7.Chain.done (fun xs x62 hL => ?_)
              obtain ⟨⟨hbe, hbl⟩, hf, -, -⟩ := hL
              have f0 : xs 0 = _ := hf 0 (by decide)
              (try simp (disch := first | rfl | decide) only [Rel7.mask_in] at f0)
              have f1 : xs 1 = _ := hf 1 (by decide)
              (try simp (disch := first | rfl | decide) only [Rel7.mask_in] at f1)
              have f2 : xs 2 = (.bool false) := hf 2 (by decide)
              have f3 : xs 3 = _ := hf 3 (by decide)
              (try simp (disch := first | rfl | decide) only [Rel7.mask_in] at f3)
              have f4 : xs 4 = (.string ⟨(vText au.x).toArray⟩) := hf 4 (by decide)
              have f5 : xs 5 = _ := hf 5 (by decide)
              (try simp (disch := first | rfl | decide) only [Rel7.mask_in] at f5)
              have f6 : xs 6 = (.string ⟨(vText bu.x).toArray⟩) := hf 6 (by decide)
              have f7 : xs 7 = _ := hf 7 (by decide)
              (try simp (disch := first | rfl | decide) only [Rel7.mask_in] at f7)
              have f8 : xs 8 = _ := hf 8 (by decide)
              (try simp (disch := first | rfl | decide) only [Rel7.mask_in] at f8)
              have hb0 : Below 0 x61 x62 := undrew (hbe 0 (Nat.zero_le _) (fun _ _ => Nat.zero_le _))
              have hgr : ∀ j, j < x61.heap.size → (∀ q, q < 0 → (fun q => 0) q ≠ j) → x62.heap[j]? = x61.heap[j]? := hbl
              clear hbe hbl hf
              have hb : Below x61.heap.size x61 x62 := ⟨hb0.os, hb0.tape, hb0.output, hb0.size, fun q hq => hgr q hq (fun q h => absurd h (Nat.not_lt_zero _))⟩
              refine Rel7.rest_done ?_
              simp only [Rel7.fill, List.setIfInBounds_toArray, List.set_cons_zero, List.set_cons_succ, f0, f1, f2, f3, f4, f5, f6, f7, f8]
              clear hb0 hgr hog hlt_4 hlt_6 f0 f1 f2 f3 f4 f5 f6 f7 f8
              replace HB4 := kBV hb HB4
              replace HB6 := kBV hb HB6
              replace HI := Lib.hid (HI.out.trans (hb.mono HI.out.size))
              replace HWI := Lib.hid (HWI.out.trans (hb.mono HWI.out.size))
              replace HAC := Lib.hid (VC.below HAC.out hb)
              replace HJ := Lib.hid (HJ.out.trans (hb.mono HJ.out.size))
              replace HBC := Lib.hid (VC.below HBC.out hb)
              replace hb := Lib.hid hb
              go_wp2_with fail
              go_roundw
              case rel => exact ⟨j + 1, by go_num, hlt2, HJ⟩
              case measure => simp [intOf]; omega
          · go_wp2_with fail
            go_roundw
            case rel => exact ⟨i + 1, by go_num, hlt, Lib.hid (HI.out.trans (HJ.out.mono HI.out.size))⟩
            case measure => simp [intOf]; omega
      · exact absurd ⟨_, HAV.out, rfl⟩ hng
    · obtain ⟨wz, rfl⟩ : ∃ q, q = wr := ⟨_, rfl⟩
      have HWI : Hid (Below we.heap.size we wz) := Lib.hid (HW.out.trans (HI.out.mono HW.out.size))
      have HLZ := Lib.hid (HL.out.below HI.out)
      have hdrr : decide (rs = rs) = true := decide_eq_true rfl
      have hdrn : decide (rs = rs ++ [V.B true]) = false := decide_eq_false (fun h => by have := congrArg List.length h; simp at this)
      have HL6 : Hid (rs.length ≤ 5) := Lib.hid (by rw [← HN.out]; exact hl5)
      go_upto_region 17 with fail
      have hog : Hid (∀ q, q < 0 → (fun q => 0) q < wz.heap.size) := Lib.hid (fun q h => absurd h (Nat.not_lt_zero _))
      refine Rel7.region (by kernel_rfl) [[], [], [0, 1], [0, 1, 2], [0, 1, 2, 3], [0, 1, 2, 3], [0, 1, 2, 3], [0, 1, 2, 3, 6], [0, 1, 2, 3], [0, 1, 2, 3, 8], [0, 1, 2, 3, 5, 6, 7, 8, 9], [0, 1, 2, 3], [0, 1, 2, 3, 11], [0, 1, 2, 3, 5, 6, 7, 8, 9, 10, 11, 12], [0, 1, 2, 3, 4, 5, 6, 7, 8, 9, 10, 11, 12, 13], [0, 1, 2, 3, 4, 5, 6, 7, 8, 9, 10, 11, 12, 13, 14], [0, 1, 2, 3, 4, 5, 6, 7, 8, 9, 10, 11, 12, 13, 14, 15], [0, 1, 2, 3, 4, 5, 6, 7, 8, 9, 10, 11, 12, 13, 14, 15, 16]] [] [] (fun q => 0) 0 18 (by kernel_rfl) (by kernel_rfl) (by rfl) hog.out (fun q q' h h' hn => absurd hn (by omega)) ?_
      refine Rel7.Chain.det ?_ (by rfl) (fun T xs wr hA => ?_) ?_
      rotate_left 1
      · have e0 := hA.pre 0 (by kernel_rfl)
        simp only [List.getElem?_toArray, List.getElem?_cons_zero] at e0
        clear hA
        refine ⟨(by rfl), ?_⟩
        go_simp <;> (try with_reducible rfl)
      refine Rel7.Chain.det ?_ (by rfl) (fun T xs wr hA => ?_) ?_
      rotate_left 1
      · have e0 := hA.pre 0 (by kernel_rfl)
        simp only [List.getElem?_toArray, List.getElem?_cons_zero] at e0
        clear hA
        refine ⟨(by rfl), ?_⟩
        go_simp <;> (try with_reducible rfl)
      refine Rel7.Chain.call (fun xs v w => v = .bool true) (fun _ _ _ _ h _ => h) (fun _ _ _ _ _ h _ _ => h) (by rfl) (fun T xs wr hA => ?_) ?_
      · have hsw := (hA.be 0 (Nat.zero_le _) (fun _ _ => Nat.zero_le _)).size
        have e50 := hA.tm 0 50 (by rfl) (by rfl)
        have f50 : xs 0 = _ := hA.fa 0 (by rfl)
        (try simp (disch := first | rfl | decide) only [Rel7.mask_in] at f50)
        rw [f50] at e50
        clear f50
        have e51 := hA.tm 1 51 (by rfl) (by rfl)
        have f51 : xs 1 = _ := hA.fa 1 (by rfl)
        (try simp (disch := first | rfl | decide) only [Rel7.mask_in] at f51)
        rw [f51] at e51
        clear f51
        have hbw := undrew (hA.be wz.heap.size (Nat.le_refl _) (fun q h => absurd h (Nat.not_lt_zero q)))
        clear hA
        refine ⟨(by rfl), fun K hK => ?_⟩
        go_simp
        refine (sameAll_p _ _ rs rs wr (VL.below HLZ.out hbw) (VL.below HLZ.out hbw)).mono ?_
        rintro e w' ⟨rfl, hb'⟩
        exact hK.out _ _ (by rw [hdrr]) hb'
      refine Rel7.Chain.det ?_ (by rfl) (fun T xs wr hA => ?_) ?_
      rotate_left 1
      · have e52 := hA.tm 2 52 (by rfl) (by rfl)
        have f52 : xs 2 = (.bool true) := hA.fa 2 (by rfl)
        rw [f52] at e52
        clear f52
        clear hA
        refine ⟨(by rfl), ?_⟩
        go_simp <;> (try with_reducible rfl)
      refine Rel7.Chain.det ?_ (by rfl) (fun T xs wr hA => ?_) ?_
      rotate_left 1
      · have e53 := hA.tm 3 53 (by rfl) (by rfl)
        have f53 : xs 3 = _ := hA.fa 3 (by rfl)
        (try simp (disch := first | rfl | decide) only [Rel7.mask_in] at f53)
        rw [f53] at e53
        clear f53
        have e0 := hA.pre 0 (by kernel_rfl)
        simp only [List.getElem?_toArray, List.getElem?_cons_zero] at e0
        clear hA
        refine ⟨((Rely.wanted_at rfl (by rfl) e53).trans (by rfl)), ?_⟩
        go_simp <;> (try with_reducible rfl)
      refine Rel7.Chain.det ?_ (by rfl) (fun T xs wr hA => ?_) ?_
      rotate_left 1
      · have e53 := hA.tm 3 53 (by rfl) (by rfl)
        have f53 : xs 3 = _ := hA.fa 3 (by rfl)
        (try simp (disch := first | rfl | decide) only [Rel7.mask_in] at f53)
        rw [f53] at e53
        clear f53
        have e0 := hA.pre 0 (by kernel_rfl)
        simp only [List.getElem?_toArray, List.getElem?_cons_zero] at e0
        clear hA
        refine ⟨((Rely.wanted_at rfl (by rfl) e53).trans (by rfl)), ?_⟩
        go_simp <;> (try with_reducible rfl)
      refine Rel7.Chain.det ?_ (by rfl) (fun T xs wr hA => ?_) ?_
      rotate_left 1
      · have e53 := hA.tm 3 53 (by rfl) (by rfl)
        have f53 : xs 3 = _ := hA.fa 3 (by rfl)
        (try simp (disch := first | rfl | decide) only [Rel7.mask_in] at f53)
        rw [f53] at e53
        clear f53
        have e0 := hA.pre 0 (by kernel_rfl)
        simp only [List.getElem?_toArray, List.getElem?_cons_zero] at e0
        clear hA
        refine ⟨((Rely.wanted_at rfl (by rfl) e53).trans (by rfl)), ?_⟩
        go_simp <;> (try with_reducible rfl)
      refine Rel7.Chain.det ?_ (by rfl) (fun T xs wr hA => ?_) ?_
      rotate_left 1
      · have e53 := hA.tm 3 53 (by rfl) (by rfl)
        have f53 : xs 3 = _ := hA.fa 3 (by rfl)
        (try simp (disch := first | rfl | decide) only [Rel7.mask_in] at f53)
        rw [f53] at e53
        clear f53
        have e56 := hA.tm 6 56 (by rfl) (by rfl)
        have f56 : xs 6 = _ := hA.fa 6 (by rfl)
        (try simp (disch := first | rfl | decide) only [Rel7.mask_in] at f56)
        rw [f56] at e56
        clear f56
        clear hA
        refine ⟨((Rely.wanted_at rfl (by rfl) e53).trans (by rfl)), ?_⟩
        go_simp <;> (try with_reducible rfl)
      refine Rel7.Chain.det ?_ (by rfl) (fun T xs wr hA => ?_) ?_
      rotate_left 1
      · have e53 := hA.tm 3 53 (by rfl) (by rfl)
        have f53 : xs 3 = _ := hA.fa 3 (by rfl)
        (try simp (disch := first | rfl | decide) only [Rel7.mask_in] at f53)
        rw [f53] at e53
        clear f53
        have e0 := hA.pre 0 (by kernel_rfl)
        simp only [List.getElem?_toArray, List.getElem?_cons_zero] at e0
        clear hA
        refine ⟨((Rely.wanted_at rfl (by rfl) e53).trans (by rfl)), ?_⟩
        go_simp <;> (try with_reducible rfl)
      refine Rel7.Chain.det ?_ (by rfl) (fun T xs wr hA => ?_) ?_
      rotate_left 1
      · have e53 := hA.tm 3 53 (by rfl) (by rfl)
        have f53 : xs 3 = _ := hA.fa 3 (by rfl)
        (try simp (disch := first | rfl | decide) only [Rel7.mask_in] at f53)
        rw [f53] at e53
        clear f53
        have e58 := hA.tm 8 58 (by rfl) (by rfl)
        have f58 : xs 8 = _ := hA.fa 8 (by rfl)
        (try simp (disch := first | rfl | decide) only [Rel7.mask_in] at f58)
        rw [f58] at e58
        clear f58
        clear hA
        refine ⟨((Rely.wanted_at rfl (by rfl) e53).trans (by rfl)), ?_⟩
        go_simp <;> (try with_reducible rfl)
      refine Rel7.Chain.det ?_ (by rfl) (fun T xs wr hA => ?_) ?_
      rotate_left 1
      · have e53 := hA.tm 3 53 (by rfl) (by rfl)
        have f53 : xs 3 = _ := hA.fa 3 (by rfl)
        (try simp (disch := first | rfl | decide) only [Rel7.mask_in] at f53)
        rw [f53] at e53
        clear f53
        have e55 := hA.tm 5 55 (by rfl) (by rfl)
        have f55 : xs 5 = _ := hA.fa 5 (by rfl)
        (try simp (disch := first | rfl | decide) only [Rel7.mask_in] at f55)
        rw [f55] at e55
        clear f55
        have e57 := hA.tm 7 57 (by rfl) (by rfl)
        have f57 : xs 7 = _ := hA.fa 7 (by rfl)
        (try simp (disch := first | rfl | decide) only [Rel7.mask_in] at f57)
        rw [f57] at e57
        clear f57
        have e59 := hA.tm 9 59 (by rfl) (by rfl)
        have f59 : xs 9 = _ := hA.fa 9 (by rfl)
        (try simp (disch := first | rfl | decide) only [Rel7.mask_in] at f59)
        rw [f59] at e59
        clear f59
        clear hA
        refine ⟨((Rely.wanted_at rfl (by rfl) e53).trans (by rfl)), ?_⟩
        go_simp <;> (try with_reducible rfl)
      refine Rel7.Chain.call (fun xs v w => v = .agg #[.int .i64 1, .bool false, .slice none 0 0, .bool true, .slice none 0 0]) (fun _ _ _ _ h _ => h) (fun _ _ _ _ _ h _ _ => h) (by rfl) (fun T xs wr hA => ?_) ?_
      · have e53 := hA.tm 3 53 (by rfl) (by rfl)
        have f53 : xs 3 = _ := hA.fa 3 (by rfl)
        (try simp (disch := first | rfl | decide) only [Rel7.mask_in] at f53)
        rw [f53] at e53
        clear f53
        have hsw := (hA.be 0 (Nat.zero_le _) (fun _ _ => Nat.zero_le _)).size
        clear hA
        refine ⟨((Rely.wanted_at rfl (by rfl) e53).trans (by rfl)), fun K hK => ?_⟩
        go_simp
        refine (ofBool_p true wr).mono ?_
        rintro e w' ⟨v, rfl, hc, hb'⟩
        exact hK.out _ _ hc.bool hb'
      refine Rel7.Chain.call (fun xs v w => VL w v [.B true]) (fun _ _ _ _ h hb => VL.below h hb) (fun _ _ _ _ _ _ h _ => by obtain ⟨q, hq, _⟩ := h; exact absurd hq (Nat.not_lt_zero _)) (by rfl) (fun T xs wr hA => ?_) ?_
      · have e53 := hA.tm 3 53 (by rfl) (by rfl)
        have f53 : xs 3 = _ := hA.fa 3 (by rfl)
        (try simp (disch := first | rfl | decide) only [Rel7.mask_in] at f53)
        rw [f53] at e53
        clear f53
        have hsw := (hA.be 0 (Nat.zero_le _) (fun _ _ => Nat.zero_le _)).size
        have e61 := hA.tm 11 61 (by rfl) (by rfl)
        have f61 : xs 11 = (.agg #[.int .i64 1, .bool false, .slice none 0 0, .bool true, .slice none 0 0]) := hA.fa 11 (by rfl)
        rw [f61] at e61
        clear f61
        have hbw := undrew (hA.be wz.heap.size (Nat.le_refl _) (fun q h => absurd h (Nat.not_lt_zero q)))
        clear hA
        refine ⟨((Rely.wanted_at rfl (by rfl) e53).trans (by rfl)), fun K hK => ?_⟩
        go_simp
        exact hK.out _ _ (one_true (heap_alloc_new wr _)) ((Below.refl _ _).alloc (Nat.le_refl _) _)
      refine Rel7.Chain.call (fun xs v w => VL w v (rs ++ [.B true])) (fun _ _ _ _ h hb => VL.below h hb) (fun _ _ _ _ _ _ h _ => by obtain ⟨q, hq, _⟩ := h; exact absurd hq (Nat.not_lt_zero _)) (by rfl) (fun T xs wr hA => ?_) ?_
      · have e53 := hA.tm 3 53 (by rfl) (by rfl)
        have f53 : xs 3 = _ := hA.fa 3 (by rfl)
        (try simp (disch := first | rfl | decide) only [Rel7.mask_in] at f53)
        rw [f53] at e53
        clear f53
        have hsw := (hA.be 0 (Nat.zero_le _) (fun _ _ => Nat.zero_le _)).size
        have e60 := hA.tm 10 60 (by rfl) (by rfl)
        have f60 : xs 10 = _ := hA.fa 10 (by rfl)
        (try simp (disch := first | rfl | decide) only [Rel7.mask_in] at f60)
        rw [f60] at e60
        clear f60
        have e62 := hA.tm 12 62 (by rfl) (by rfl)
        have hbw := undrew (hA.be wz.heap.size (Nat.le_refl _) (fun q h => absurd h (Nat.not_lt_zero q)))
        have hF12 : VL wr (xs 12) [.B true] := hA.fa 12 (by rfl)
        have h12 := hF12
        clear hA
        refine ⟨((Rely.wanted_at rfl (by rfl) e53).trans (by rfl)), fun K hK => ?_⟩
        obtain ⟨v9, w9, r1, r2, r3⟩ := VL.more (VL.cut (VL.below HLZ.out hbw)) h12 (by simp) (by have := HL6.out; simp; omega) 22
        refine wp_append (.tmp 60) (.tmp 62) rfl (by simp [Act.eval, e60]) (by simp [Act.eval, e62]) r1 (hK.out _ _ r2 r3)
      refine Rel7.Chain.call (fun xs v w => v = .bool false) (fun _ _ _ _ h _ => h) (fun _ _ _ _ _ h _ _ => h) (by rfl) (fun T xs wr hA => ?_) ?_
      · have e53 := hA.tm 3 53 (by rfl) (by rfl)
        have f53 : xs 3 = _ := hA.fa 3 (by rfl)
        (try simp (disch := first | rfl | decide) only [Rel7.mask_in] at f53)
        rw [f53] at e53
        clear f53
        have hsw := (hA.be 0 (Nat.zero_le _) (fun _ _ => Nat.zero_le _)).size
        have e54 := hA.tm 4 54 (by rfl) (by rfl)
        have f54 : xs 4 = _ := hA.fa 4 (by rfl)
        (try simp (disch := first | rfl | decide) only [Rel7.mask_in] at f54)
        rw [f54] at e54
        clear f54
        have e63 := hA.tm 13 63 (by rfl) (by rfl)
        have hbw := undrew (hA.be wz.heap.size (Nat.le_refl _) (fun q h => absurd h (Nat.not_lt_zero q)))
        have hF13 : VL wr (xs 13) (rs ++ [.B true]) := hA.fa 13 (by rfl)
        have h13 := hF13
        clear hA
        refine ⟨((Rely.wanted_at rfl (by rfl) e53).trans (by rfl)), fun K hK => ?_⟩
        go_simp
        refine (sameAll_p _ _ rs (rs ++ [.B true]) wr (VL.below HLZ.out hbw) h13).mono ?_
        rintro e w' ⟨rfl, hb'⟩
        exact hK.out _ _ (by rw [hdrn]) hb'
      refine Rel7.Chain.det ?_ (by rfl) (fun T xs wr hA => ?_) ?_
      rotate_left 1
      · have e53 := hA.tm 3 53 (by rfl) (by rfl)
        have f53 : xs 3 = _ := hA.fa 3 (by rfl)
        (try simp (disch := first | rfl | decide) only [Rel7.mask_in] at f53)
        rw [f53] at e53
        clear f53
        have e64 := hA.tm 14 64 (by rfl) (by rfl)
        have f64 : xs 14 = (.bool false) := hA.fa 14 (by rfl)
        rw [f64] at e64
        clear f64
        clear hA
        refine ⟨((Rely.wanted_at rfl (by rfl) e53).trans (by rfl)), ?_⟩
        go_simp <;> (try with_reducible rfl)
      refine Rel7.Chain.det ?_ (by rfl) (fun T xs wr hA => ?_) ?_
      rotate_left 1
      · have e53 := hA.tm 3 53 (by rfl) (by rfl)
        have f53 : xs 3 = _ := hA.fa 3 (by rfl)
        (try simp (disch := first | rfl | decide) only [Rel7.mask_in] at f53)
        rw [f53] at e53
        clear f53
        have e65 := hA.tm 15 65 (by rfl) (by rfl)
        have f65 : xs 15 = _ := hA.fa 15 (by rfl)
        (try simp (disch := first | rfl | decide) only [Rel7.mask_in] at f65)
        rw [f65] at e65
        clear f65
        clear hA
        refine ⟨(by rfl), ?_⟩
        go_simp <;> (try with_reducible rfl)
      refine Rel7.Chain.det ?_ (by rfl) (fun T xs wr hA => ?_) ?_
      rotate_left 1
      · have e66 := hA.tm 16 66 (by rfl) (by rfl)
        have f66 : xs 16 = _ := hA.fa 16 (by rfl)
        (try simp (disch := first | rfl | decide) only [Rel7.mask_in] at f66)
        rw [f66] at e66
        clear f66
        clear hA
        refine ⟨(by rfl), ?_⟩
        go_simp <;> (try with_reducible rfl)
      refine Rel7.Chain.done (fun xs x81 hL => ?_)
      obtain ⟨⟨hbe, hbl⟩, hf, -, -⟩ := hL
      have f0 : xs 0 = _ := hf 0 (by decide)
      (try simp (disch := first | rfl | decide) only [Rel7.mask_in] at f0)
      have f1 : xs 1 = _ := hf 1 (by decide)
      (try simp (disch := first | rfl | decide) only [Rel7.mask_in] at f1)
      have f2 : xs 2 = (.bool true) := hf 2 (by decide)
      have f3 : xs 3 = _ := hf 3 (by decide)
      (try simp (disch := first | rfl | decide) only [Rel7.mask_in] at f3)
      have f4 : xs 4 = _ := hf 4 (by decide)
      (try simp (disch := first | rfl | decide) only [Rel7.mask_in] at f4)
      have f5 : xs 5 = _ := hf 5 (by decide)
      (try simp (disch := first | rfl | decide) only [Rel7.mask_in] at f5)
      have f6 : xs 6 = _ := hf 6 (by decide)
      (try simp (disch := first | rfl | decide) only [Rel7.mask_in] at f6)
      have f7 : xs 7 = _ := hf 7 (by decide)
      (try simp (disch := first | rfl | decide) only [Rel7.mask_in] at f7)
      have f8 : xs 8 = _ := hf 8 (by decide)
      (try simp (disch := first | rfl | decide) only [Rel7.mask_in] at f8)
      have f9 : xs 9 = _ := hf 9 (by decide)
      (try simp (disch := first | rfl | decide) only [Rel7.mask_in] at f9)
      have f10 : xs 10 = _ := hf 10 (by decide)
      (try simp (disch := first | rfl | decide) only [Rel7.mask_in] at f10)
      have f11 : xs 11 = (.agg #[.int .i64 1, .bool false, .slice none 0 0, .bool true, .slice none 0 0]) := hf 11 (by decide)
      have F12 : VL x81 (xs 12) [.B true] := hf 12 (by decide)
      have F13 : VL x81 (xs 13) (rs ++ [.B true]) := hf 13 (by decide)
      have f14 : xs 14 = (.bool false) := hf 14 (by decide)
      have f15 : xs 15 = _ := hf 15 (by decide)
      (try simp (disch := first | rfl | decide) only [Rel7.mask_in] at f15)
      have f16 : xs 16 = _ := hf 16 (by decide)
      (try simp (disch := first | rfl | decide) only [Rel7.mask_in] at f16)
      have f17 : xs 17 = _ := hf 17 (by decide)
      (try simp (disch := first | rfl | decide) only [Rel7.mask_in] at f17)
      have hb0 : Below 0 wz x81 := undrew (hbe 0 (Nat.zero_le _) (fun _ _ => Nat.zero_le _))
      have hgr : ∀ j, j < wz.heap.size → (∀ q, q < 0 → (fun q => 0) q ≠ j) → x81.heap[j]? = wz.heap[j]? := hbl
      clear hbe hbl hf
      have hb : Below wz.heap.size wz x81 := ⟨hb0.os, hb0.tape, hb0.output, hb0.size, fun q hq => hgr q hq (fun q h => absurd h (Nat.not_lt_zero _))⟩
      refine Rel7.rest_done ?_
      simp only [Rel7.fill, List.setIfInBounds_toArray, List.set_cons_zero, List.set_cons_succ, f0, f1, f2, f3, f4, f5, f6, f7, f8, f9, f10, f11, f14, f15, f16, f17]
      clear hb0 hgr hog  f0 f1 f2 f3 f4 f5 f6 f7 f8 f9 f10 f11 f14 f15 f16 f17
      replace HWI := Lib.hid (HWI.out.trans (hb.mono HWI.out.size))
      replace hb := Lib.hid hb
      go_wp2_with fail
      go_ret
      exact ⟨rfl, HWI.out⟩
end Go.Proofs.YtocadojeanhalaaGreatDoor
