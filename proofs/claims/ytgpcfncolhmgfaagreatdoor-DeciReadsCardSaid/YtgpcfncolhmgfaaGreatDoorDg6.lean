/-
  The document's answer for layer 4: Read where a number begins, by contract.
-/
import Derived.Test.YtgpcfncolhmgfaaGreatDoorDg5
namespace Go.Proofs.YtgpcfncolhmgfaaGreatDoor
open Go.RowKit
attribute [local go_sem ↓] Go.wp_at_zero Go.wp_at_succ

theorem wp_in4 {P : Program} {x1 x2 x3 x4 R : Code} {Q : Exit → Act → World → Prop} {a : Act} {w : World}
    (h : ∀ RW : Act → World → Prop, (∀ a w, R.wp P Q a w → RW a w) → ∀ K1 K2 K3 : Act → World → Prop, (∀ a w, x2.wp P (Exit.then K2 Q) a w → K1 a w) → (∀ a w, x3.wp P (Exit.then K3 Q) a w → K2 a w) → (∀ a w, x4.wp P (Exit.then RW Q) a w → K3 a w) → x1.wp P (Exit.then K1 Q) a w) : (x1.seq (x2.seq (x3.seq (x4.seq R)))).wp P Q a w :=
  wp_seq (h _ (fun _ _ h => h) _ _ _ (fun _ _ h => wp_seq h) (fun _ _ h => wp_seq h) (fun _ _ h => wp_seq h))
theorem wp_in5 {P : Program} {x1 x2 x3 x4 x5 R : Code} {Q : Exit → Act → World → Prop} {a : Act} {w : World}
    (h : ∀ RW : Act → World → Prop, (∀ a w, R.wp P Q a w → RW a w) → ∀ K1 K2 K3 K4 : Act → World → Prop, (∀ a w, x2.wp P (Exit.then K2 Q) a w → K1 a w) → (∀ a w, x3.wp P (Exit.then K3 Q) a w → K2 a w) → (∀ a w, x4.wp P (Exit.then K4 Q) a w → K3 a w) → (∀ a w, x5.wp P (Exit.then RW Q) a w → K4 a w) → x1.wp P (Exit.then K1 Q) a w) : (x1.seq (x2.seq (x3.seq (x4.seq (x5.seq R))))).wp P Q a w :=
  wp_seq (h _ (fun _ _ h => h) _ _ _ _ (fun _ _ h => wp_seq h) (fun _ _ h => wp_seq h) (fun _ _ h => wp_seq h) (fun _ _ h => wp_seq h))
theorem wp_in3 {P : Program} {x1 x2 x3 R : Code} {Q : Exit → Act → World → Prop} {a : Act} {w : World}
    (h : ∀ RW : Act → World → Prop, (∀ a w, R.wp P Q a w → RW a w) → ∀ K1 K2 : Act → World → Prop, (∀ a w, x2.wp P (Exit.then K2 Q) a w → K1 a w) → (∀ a w, x3.wp P (Exit.then RW Q) a w → K2 a w) → x1.wp P (Exit.then K1 Q) a w) : (x1.seq (x2.seq (x3.seq R))).wp P Q a w :=
  wp_seq (h _ (fun _ _ h => h) _ _ (fun _ _ h => wp_seq h) (fun _ _ h => wp_seq h))

theorem dtx_num {f : Nat → Int} {p i : Nat} (h : isD (f (p + i)) = true) : ((numOf (dtx f p (i + 1)) : Nat) : Int) = (numOf (dtx f p i) : Nat) * 10 + (f (p + i) - 48) := by
  obtain ⟨h0, h1⟩ := isD_bds h
  have e : dtx f p (i + 1) = dtx f p i ++ [UInt8.ofNat (f (p + i)).toNat] := by
    unfold dtx
    rw [List.range_succ, List.map_append]
    rfl
  rw [e, numOf_snoc, UInt8.toNat_ofNat']
  omega

theorem mE_le {f : Nat → Int} {n p : Nat} (h : p ≤ n) : mE f n p ≤ n := by
  have h1 : mA f n p ≤ n - p := dgc_le f _ _
  unfold mE mB
  cases hd : mD f n p with
  | false => simp only [Bool.false_eq_true, if_false]; omega
  | true =>
    simp only [if_true]
    have h2 := dgc_le f (n - (p + mA f n p + 1)) (p + mA f n p + 1)
    unfold mD skB at hd
    rw [Bool.and_eq_true, decide_eq_true_eq] at hd
    omega

set_option maxHeartbeats 6400000 in
set_option maxRecDepth 100000 in
theorem r4Read_yes (a : Option Addr) (n c : Nat) (f : Nat → Int) (p : Nat) (w : World) (h : KRow w .i32 a n c f) (hpn : p < n) (hbg : bgB f n p = true) (hn : n ≤ 250) :
    Calls Tryz.prog 7 #[.slice a n c, .int .i64 p] w fun e w' =>
      RdNum w w' e (if gK f n p = true then nwP (gT f n p) (gB f n p) else 0) (if gK f n p = true then nwQ (gT f n p) (gB f n p) else 1) (if gK f n p = true then gE f n p else 0) (gK f n p) := by
  have BG := Lib.hid (fun wz hz => r4Begins_any a n c f p wz hz (by have := h.2.1; have := h.1; unfold maxLen at *; omega))
  rw [hbg] at BG
  have ZR := Lib.hid (fun wz => r3Zero_any wz)
  unfold NumTold at ZR
  have BB := Lib.hid ((Bag.start w).box3 (.bool false) (.string ⟨#[]⟩) (.string ⟨#[]⟩) 34)
  have HKA := Lib.hid (h.below ((Below.refl w.heap.size w).alloc (Nat.le_refl _) (.cells #[.bool false, .string ⟨#[]⟩, .string ⟨#[]⟩] 34)))
  have hl := h.1
  have hcm := h.2.1
  unfold maxLen at hcm
  obtain ⟨b, off, rfl⟩ : ∃ b off, a = some ⟨b, off, none⟩ := by
    obtain ⟨b, off, e, _, _⟩ := h.get hpn
    exact ⟨b, off, e⟩
  have HC : Hid (∀ j, j < n → (w.alloc (.cells #[.bool false, .string ⟨#[]⟩, .string ⟨#[]⟩] 34)).cell? ⟨b, off + j, none⟩ = some (.int .i32 (f j))) := Lib.hid (fun j hj => by
    obtain ⟨b', off', e, _, hc⟩ := HKA.out.get hj
    cases e
    exact hc)
  clear h hbg
  have HF : Hid (gK f n p = false → (if gK f n p = true then nwP (gT f n p) (gB f n p) else 0) = 0 ∧ (if gK f n p = true then nwQ (gT f n p) (gB f n p) else 1) = 1 ∧ (if gK f n p = true then gE f n p else 0) = 0 ∧ gK f n p = false) := Lib.hid (fun h => by rw [h]; exact ⟨rfl, rfl, rfl, rfl⟩)
  have HT : Hid (gK f n p = true → (if gK f n p = true then nwP (gT f n p) (gB f n p) else 0) = nwP (gT f n p) (gB f n p) ∧ (if gK f n p = true then nwQ (gT f n p) (gB f n p) else 1) = nwQ (gT f n p) (gB f n p) ∧ (if gK f n p = true then gE f n p else 0) = gE f n p ∧ gK f n p = true) := Lib.hid (fun h => by rw [h]; exact ⟨rfl, rfl, rfl, rfl⟩)
  generalize (if gK f n p = true then nwP (gT f n p) (gB f n p) else 0) = P0 at *
  generalize (if gK f n p = true then nwQ (gT f n p) (gB f n p) else 1) = Q0 at *
  generalize (if gK f n p = true then gE f n p else 0) = x0 at *
  obtain ⟨k0, hk0⟩ : ∃ k, gK f n p = k := ⟨_, rfl⟩
  rw [hk0] at HF HT
  rw [hk0]
  have ZZ : Hid (∀ (w2 : World), Bag w (fun y => Slot3 y w.heap.size (.bool false) (.string ⟨#[]⟩) (.string ⟨#[]⟩) ∧ True) w2 → k0 = false → RdNum w (((w2.setCell ⟨w.heap.size, 0, none⟩ (.bool (rB 0))).setCell ⟨w.heap.size, 1, none⟩ (.string (rS 0))).setCell ⟨w.heap.size, 2, none⟩ (.string (str (dec 1)))) (.returned (.tuple #[.agg #[.bool (rB 0), .string (rS 0), .string (str (dec 1))], .int .i64 0, .bool false])) P0 Q0 x0 k0) :=
    Lib.hid (fun w2 B hk => by
      obtain ⟨h1, h2, h3, h4⟩ := HF.out hk
      rw [h1, h2, h3, h4]
      exact RdNum.done 0 1 0 false B.below (Nat.le_refl _) rfl rfl rfl)
  obtain ⟨zb, hzb⟩ : ∃ z, rB 0 = z := ⟨_, rfl⟩
  obtain ⟨zs, hzs⟩ : ∃ z, rS 0 = z := ⟨_, rfl⟩
  obtain ⟨zt, hzt⟩ : ∃ z, str (dec 1) = z := ⟨_, rfl⟩
  rw [hzb, hzs, hzt] at ZR ZZ
  clear hzb hzs
  have HK0 := Lib.hid hk0
  have q0 := HC.out p hpn
  have hsg : (f p == 175) = gS f n p := by unfold gS skB; rw [decide_eq_true hpn, Bool.true_and]; exact Bool.eq_iff_iff.2 (by simp)
  have hp1 : gP f n p = if gS f n p then p + 1 else p := rfl
  have hp1n : gP f n p ≤ n := by rw [hp1]; split <;> omega
  clear hk0
  obtain ⟨p1, hP1⟩ : ∃ q, gP f n p = q := ⟨_, rfl⟩
  rw [hP1] at hp1 hp1n
  obtain ⟨sg, hSG⟩ : ∃ q, gS f n p = q := ⟨_, rfl⟩
  rw [hSG] at hp1 hsg
  have HP1 := Lib.hid hP1
  have HSG := Lib.hid hSG
  clear hP1 hSG
  generalize f p = xp at *
  go_enter Tryz.func7, Tryz.ntmps7
  refine wp_in4 ?_
  intro RW6 hRW6 K1 K2 K3 h1 h2 h3
  have TAIL6 : Hid (∀ v2 v3 v8 v9 v10 v11 v12 v13 v14 v15 v16 v17 v18 v19 v20 v21 v22 v23 v24 v25 v26 v27 v28 v29 v30 v31 v32 v33 v34 v35 v36 v37 v38 v39 v40 v41 v42 v43 v44 v45 v46 v47 v48 v49 v50 v51 v52 v53 v54 v55 v56 v57 v58 v59 v60 v61 v62 v63 v64 v65 v66 v67 v68 v69 v70 v71 v72 v73 v74 v75 v76 v77 v78 v79 v80 v81 v82 v83 v84 v85 v86 v87 v88 v89 v90 v91 v92 v93 v94 v95 v96 v97 v98 v99 v100 v101 v102 v103 v104 v105 v106 v107 v108 v109 v110 v111 v112 v113 v114 v115 v116 v117 v118 v119 v120 v121 v122 v123 v124 v125 v126 v127 v128 v129 v130 v131 v132 v133 v134 v135 v136 v137 v138 v139 v140 v141 v142 v143 v144 v145 v146 v147 v148 v149 v150 : Value, RW6 ⟨#[.slice (some ⟨b, off, none⟩) n c, .int .i64 (p1 : Nat), v2, v3, .pointer (some ⟨w.heap.size, 0, none⟩), .int .i64 0, .bool false, .bool sg, v8, v9, v10, v11, v12, v13, v14, v15, v16, v17, v18, v19, v20, v21, v22, v23, v24, v25, v26, v27, v28, v29, v30, v31, v32, v33, v34, v35, v36, v37, v38, v39, v40, v41, v42, v43, v44, v45, v46, v47, v48, v49, v50, v51, v52, v53, v54, v55, v56, v57, v58, v59, v60, v61, v62, v63, v64, v65, v66, v67, v68, v69, v70, v71, v72, v73, v74, v75, v76, v77, v78, v79, v80, v81, v82, v83, v84, v85, v86, v87, v88, v89, v90, v91, v92, v93, v94, v95, v96, v97, v98, v99, v100, v101, v102, v103, v104, v105, v106, v107, v108, v109, v110, v111, v112, v113, v114, v115, v116, v117, v118, v119, v120, v121, v122, v123, v124, v125, v126, v127, v128, v129, v130, v131, v132, v133, v134, v135, v136, v137, v138, v139, v140, v141, v142, v143, v144, v145, v146, v147, v148, v149, v150], []⟩ (w.alloc (.cells #[.bool false, .string ⟨#[]⟩, .string ⟨#[]⟩] 34))) := by
    refine Lib.hid ?_
    intro v2 v3 v8 v9 v10 v11 v12 v13 v14 v15 v16 v17 v18 v19 v20 v21 v22 v23 v24 v25 v26 v27 v28 v29 v30 v31 v32 v33 v34 v35 v36 v37 v38 v39 v40 v41 v42 v43 v44 v45 v46 v47 v48 v49 v50 v51 v52 v53 v54 v55 v56 v57 v58 v59 v60 v61 v62 v63 v64 v65 v66 v67 v68 v69 v70 v71 v72 v73 v74 v75 v76 v77 v78 v79 v80 v81 v82 v83 v84 v85 v86 v87 v88 v89 v90 v91 v92 v93 v94 v95 v96 v97 v98 v99 v100 v101 v102 v103 v104 v105 v106 v107 v108 v109 v110 v111 v112 v113 v114 v115 v116 v117 v118 v119 v120 v121 v122 v123 v124 v125 v126 v127 v128 v129 v130 v131 v132 v133 v134 v135 v136 v137 v138 v139 v140 v141 v142 v143 v144 v145 v146 v147 v148 v149 v150
    refine hRW6 _ _ ?_
    clear hRW6 h1 h2 h3 q0 hsg hp1
    refine wp_in5 ?_
    intro RW16 hRW16 K1 K2 K3 K4 h1 h2 h3 h4
    have hm1 : mA f n p1 ≤ n - p1 := dgc_le f _ _
    have hall : ∀ j, j < mA f n p1 → isD (f (p1 + j)) = true := dgc_all f _ _
    have hm2 := dgc_le f (n - (p1 + mA f n p1 + 1)) (p1 + mA f n p1 + 1)
    have hall2 : ∀ j, j < dgc f (p1 + mA f n p1 + 1) (n - (p1 + mA f n p1 + 1)) → isD (f (p1 + mA f n p1 + 1 + j)) = true := dgc_all f _ _
    have RN1 := Lib.hid (r4run_any (some ⟨b, off, none⟩) n c f p1 _ HKA.out hp1n)
    rw [show dgc f p1 (n - p1) = mA f n p1 from rfl] at RN1
    have hdot : mD f n p1 = skB f n (p1 + mA f n p1) 46 := rfl
    have hB : mB f n p1 = if mD f n p1 then dgc f (p1 + mA f n p1 + 1) (n - (p1 + mA f n p1 + 1)) else 0 := rfl
    have hbad : Hid (mD f n p1 = true → mB f n p1 = 0 → k0 = false) := Lib.hid (fun g1 g2 => by
      rw [← HK0.out]
      unfold gK
      rw [HP1.out]
      unfold mK
      rw [g1, g2]
      rfl)
    obtain ⟨e1, hE1⟩ : ∃ q, mE f n p1 = q := ⟨_, rfl⟩
    obtain ⟨S, hS⟩ : ∃ q, str (mL f n p1) = q := ⟨_, rfl⟩
    obtain ⟨N, hN⟩ : ∃ q, mB f n p1 = q := ⟨_, rfl⟩
    have HE1 := Lib.hid hE1
    have HS1 := Lib.hid hS
    have HN := Lib.hid hN
    have TAIL16 : Hid (∀ v2 v3 v8 v11 v12 v13 v14 v15 v16 v17 v18 v19 v20 v21 v22 v23 v24 v25 v26 v27 v28 v29 v30 v31 v32 v33 v34 v35 v36 v37 v38 v39 v40 v41 v42 v43 v44 v45 v46 v47 v48 v49 v50 v51 v52 v53 v54 v55 v56 v57 v58 v59 v60 v61 v62 v63 v64 v65 v66 v67 v68 v69 v70 v71 v72 v73 v74 v75 v76 v77 v78 v79 v80 v81 v82 v83 v84 v85 v86 v87 v88 v89 v90 v91 v92 v93 v94 v95 v96 v97 v98 v99 v100 v101 v102 v103 v104 v105 v106 v107 v108 v109 v110 v111 v112 v113 v114 v115 v116 v117 v118 v119 v120 v121 v122 v123 v124 v125 v126 v127 v128 v129 v130 v131 v132 v133 v134 v135 v136 v137 v138 v139 v140 v141 v142 v143 v144 v145 v146 v147 v148 v149 v150 : Value, (mD f n p1 = true → N ≠ 0) → RW16 ⟨#[.slice (some ⟨b, off, none⟩) n c, .int .i64 (e1 : Nat), v2, v3, .pointer (some ⟨w.heap.size, 0, none⟩), .int .i64 0, .bool false, .bool sg, v8, .string S, .int .i64 (N : Nat), v11, v12, v13, v14, v15, v16, v17, v18, v19, v20, v21, v22, v23, v24, v25, v26, v27, v28, v29, v30, v31, v32, v33, v34, v35, v36, v37, v38, v39, v40, v41, v42, v43, v44, v45, v46, v47, v48, v49, v50, v51, v52, v53, v54, v55, v56, v57, v58, v59, v60, v61, v62, v63, v64, v65, v66, v67, v68, v69, v70, v71, v72, v73, v74, v75, v76, v77, v78, v79, v80, v81, v82, v83, v84, v85, v86, v87, v88, v89, v90, v91, v92, v93, v94, v95, v96, v97, v98, v99, v100, v101, v102, v103, v104, v105, v106, v107, v108, v109, v110, v111, v112, v113, v114, v115, v116, v117, v118, v119, v120, v121, v122, v123, v124, v125, v126, v127, v128, v129, v130, v131, v132, v133, v134, v135, v136, v137, v138, v139, v140, v141, v142, v143, v144, v145, v146, v147, v148, v149, v150], []⟩ (w.alloc (.cells #[.bool false, .string ⟨#[]⟩, .string ⟨#[]⟩] 34))) := by
      refine Lib.hid ?_
      intro v2 v3 v8 v11 v12 v13 v14 v15 v16 v17 v18 v19 v20 v21 v22 v23 v24 v25 v26 v27 v28 v29 v30 v31 v32 v33 v34 v35 v36 v37 v38 v39 v40 v41 v42 v43 v44 v45 v46 v47 v48 v49 v50 v51 v52 v53 v54 v55 v56 v57 v58 v59 v60 v61 v62 v63 v64 v65 v66 v67 v68 v69 v70 v71 v72 v73 v74 v75 v76 v77 v78 v79 v80 v81 v82 v83 v84 v85 v86 v87 v88 v89 v90 v91 v92 v93 v94 v95 v96 v97 v98 v99 v100 v101 v102 v103 v104 v105 v106 v107 v108 v109 v110 v111 v112 v113 v114 v115 v116 v117 v118 v119 v120 v121 v122 v123 v124 v125 v126 v127 v128 v129 v130 v131 v132 v133 v134 v135 v136 v137 v138 v139 v140 v141 v142 v143 v144 v145 v146 v147 v148 v149 v150 hgood
      refine hRW16 _ _ ?_
      clear hRW16 h1 h2 h3 h4
      refine wp_in3 ?_
      intro RW34 hRW34 K1 K2 h1 h2
      have hlen := mL_len f n p1
      have hz : S.size = (mL f n p1).length := by rw [← HS1.out]; exact str_size _
      have hkk : k0 = (mK f n p1 && eK f n e1) := by rw [← HK0.out]; unfold gK; rw [HP1.out, HE1.out]
      have hmk : mK f n p1 = (!(mD f n p1 && decide (mB f n p1 = 0)) && (decide (0 < mA f n p1 + mB f n p1) && decide (mA f n p1 + mB f n p1 ≤ 200))) := rfl
      rw [← hlen, HN.out] at hmk
      have hfirst : (mD f n p1 && decide (N = 0)) = false := by
        cases hq : mD f n p1 with
        | false => rfl
        | true => rw [decide_eq_false (hgood hq)]; rfl
      rw [hfirst, Bool.not_false, Bool.true_and] at hmk
      have he1n : e1 ≤ n := by rw [← HE1.out]; exact mE_le hp1n
      obtain ⟨M, hM⟩ : ∃ q, (mL f n p1).length = q := ⟨_, rfl⟩
      rw [hM] at hz hmk
      obtain ⟨e2, hE2⟩ : ∃ q, eE f n e1 = q := ⟨_, rfl⟩
      obtain ⟨V, hV⟩ : ∃ q, eV f n e1 = q := ⟨_, rfl⟩
      have HE2 := Lib.hid hE2
      have HV := Lib.hid hV
      have HKK := Lib.hid hkk
      have HMK := Lib.hid hmk
      have TAIL34 : Hid (∀ v2 v3 v8 v12 v13 v14 v15 v16 v17 v18 v19 v20 v21 v22 v23 v24 v25 v26 v27 v28 v29 v30 v31 v32 v33 v34 v35 v36 v37 v38 v39 v40 v41 v42 v43 v44 v45 v46 v47 v48 v49 v50 v51 v52 v53 v54 v55 v56 v57 v58 v59 v60 v61 v62 v63 v64 v65 v66 v67 v68 v69 v70 v71 v72 v73 v74 v75 v76 v77 v78 v79 v80 v81 v82 v83 v84 v85 v86 v87 v88 v89 v90 v91 v92 v93 v94 v95 v96 v97 v98 v99 v100 v101 v102 v103 v104 v105 v106 v107 v108 v109 v110 v111 v112 v113 v114 v115 v116 v117 v118 v119 v120 v121 v122 v123 v124 v125 v126 v127 v128 v129 v130 v131 v132 v133 v134 v135 v136 v137 v138 v139 v140 v141 v142 v143 v144 v145 v146 v147 v148 v149 v150 : Value, mK f n p1 = true → eK f n e1 = true → RW34 ⟨#[.slice (some ⟨b, off, none⟩) n c, .int .i64 (e2 : Nat), v2, v3, .pointer (some ⟨w.heap.size, 0, none⟩), .int .i64 0, .bool false, .bool sg, v8, .string S, .int .i64 (N : Nat), .int .i64 V, v12, v13, v14, v15, v16, v17, v18, v19, v20, v21, v22, v23, v24, v25, v26, v27, v28, v29, v30, v31, v32, v33, v34, v35, v36, v37, v38, v39, v40, v41, v42, v43, v44, v45, v46, v47, v48, v49, v50, v51, v52, v53, v54, v55, v56, v57, v58, v59, v60, v61, v62, v63, v64, v65, v66, v67, v68, v69, v70, v71, v72, v73, v74, v75, v76, v77, v78, v79, v80, v81, v82, v83, v84, v85, v86, v87, v88, v89, v90, v91, v92, v93, v94, v95, v96, v97, v98, v99, v100, v101, v102, v103, v104, v105, v106, v107, v108, v109, v110, v111, v112, v113, v114, v115, v116, v117, v118, v119, v120, v121, v122, v123, v124, v125, v126, v127, v128, v129, v130, v131, v132, v133, v134, v135, v136, v137, v138, v139, v140, v141, v142, v143, v144, v145, v146, v147, v148, v149, v150], []⟩ (w.alloc (.cells #[.bool false, .string ⟨#[]⟩, .string ⟨#[]⟩] 34))) := by
        refine Lib.hid ?_
        intro v2 v3 v8 v12 v13 v14 v15 v16 v17 v18 v19 v20 v21 v22 v23 v24 v25 v26 v27 v28 v29 v30 v31 v32 v33 v34 v35 v36 v37 v38 v39 v40 v41 v42 v43 v44 v45 v46 v47 v48 v49 v50 v51 v52 v53 v54 v55 v56 v57 v58 v59 v60 v61 v62 v63 v64 v65 v66 v67 v68 v69 v70 v71 v72 v73 v74 v75 v76 v77 v78 v79 v80 v81 v82 v83 v84 v85 v86 v87 v88 v89 v90 v91 v92 v93 v94 v95 v96 v97 v98 v99 v100 v101 v102 v103 v104 v105 v106 v107 v108 v109 v110 v111 v112 v113 v114 v115 v116 v117 v118 v119 v120 v121 v122 v123 v124 v125 v126 v127 v128 v129 v130 v131 v132 v133 v134 v135 v136 v137 v138 v139 v140 v141 v142 v143 v144 v145 v146 v147 v148 v149 v150 g1 g2
        refine hRW34 _ _ ?_
        clear hRW34 h1 h2
        have hb1 := mK_bds g1
        have hb2 := eV_bds g2
        rw [HV.out] at hb2
        rw [HN.out] at hb1
        have hdig : ∀ x ∈ mL f n p1, 48 ≤ x.toNat ∧ x.toNat ≤ 57 := mL_dig
        have hsd := sdig_numOf (mL f n p1) hdig
        have hlt := numOf_lt _ hdig
        rw [HN.out] at hlen
        obtain ⟨t1, t2, t3, t4⟩ := HT.out (by rw [HKK.out, g1, g2]; rfl)
        have hx : gX f n p = V - (N : Int) := by unfold gX; rw [HP1.out, HE1.out, HV.out, HN.out]
        have hT : gT f n p = vlT sg (mL f n p1) (V - (N : Int)) := by unfold gT; rw [HSG.out, HP1.out, hx]
        have hBB : gB f n p = vlB (V - (N : Int)) := by unfold gB; rw [hx]
        have hgE : gE f n p = e2 := by unfold gE; rw [HP1.out, HE1.out, HE2.out]
        obtain ⟨r1, r2⟩ := rd_same sg (mL f n p1) (V - (N : Int))
        rw [← hT, ← hBB, ← t1] at r1
        rw [← hT, ← hBB, ← t2] at r2
        have OF := Lib.hid (fun wz => rOf_any sg (numOf (mL f n p1)) (mL f n p1).length wz (by omega) hlt (by omega))
        rw [hsd, HS1.out] at OF
        have hdz : dl (sgn sg (numOf (mL f n p1))).natAbs ≤ 1200 := by
          rw [sgn_abs]
          have := dl_le _ _ (by omega) hlt
          omega
        obtain ⟨Z, hZ⟩ : ∃ z, sgn sg (numOf (mL f n p1)) = z := ⟨_, rfl⟩
        rw [hZ] at OF r1 r2 hdz
        have WH := Lib.hid (fun wz => r3Whole_any Z wz)
        have TT := Lib.hid (fun wz => times10_anyW Z 1 (V - (N : Int)) wz (by omega) hdz (by have : dl 1 = 1 := (by unfold dl; rfl); omega) (by omega))
        rw [r1, r2] at TT
        unfold NumTold at WH TT
        unfold RTold at OF
        have hw := IntWalk.i64_in (V - (N : Int)) (by omega)
        obtain ⟨pb, hpb⟩ : ∃ q, rB P0 = q := ⟨_, rfl⟩
        obtain ⟨ps, hps⟩ : ∃ q, rS P0 = q := ⟨_, rfl⟩
        obtain ⟨pt, hpt⟩ : ∃ q, str (dec Q0) = q := ⟨_, rfl⟩
        rw [hpb, hps, hpt] at TT
        have HX : Hid (∀ (w2 : World), Bag w (fun y => Slot3 y w.heap.size (.bool false) (.string ⟨#[]⟩) (.string ⟨#[]⟩) ∧ True) w2 → RdNum w (((w2.setCell ⟨w.heap.size, 0, none⟩ (.bool pb)).setCell ⟨w.heap.size, 1, none⟩ (.string ps)).setCell ⟨w.heap.size, 2, none⟩ (.string pt)) (.returned (.tuple #[.agg #[.bool pb, .string ps, .string pt], .int .i64 (e2 : Nat), .bool true])) P0 Q0 x0 k0) := Lib.hid (fun w2 B => by
          rw [t3, hgE, t4]
          exact RdNum.done P0 Q0 e2 true B.below (Nat.le_refl _) hpb hps hpt)
        generalize rB Z = z1 at *
        generalize rS Z = z2 at *
        rw [hzt] at WH TT
        clear hzt g1 g2 hb1 hb2 hdig hsd hlt t1 t2 t3 t4 hx hT hBB hgE r1 r2 hdz hZ hpb hps hpt hE1 hS hN hm1 hall hm2 hall2 hdot hB hbad RN1 hE2 hV hlen hM hfirst hgood hkk hmk hz
        go_wp2_with fail
        go_at_call 24
        refine (OF.out _).mono ?_
        rintro e w5 ⟨rfl, hb5⟩
        have BB := Lib.hid (BB.out.go hb5)
        clear hb5
        go_wp2_with fail
        go_at_call 23
        refine (WH.out _).mono ?_
        rintro e w6 ⟨rfl, hb6⟩
        have BB := Lib.hid (BB.out.go hb6)
        clear hb6
        go_wp2_with fail
        go_at_call 22
        refine (TT.out _).mono ?_
        rintro e w7 ⟨rfl, hb7⟩
        have BB := Lib.hid (BB.out.go hb7)
        have hs := BB.out.now.1
        have r0 := hs.cell
        have r1 := hs.cell1
        have r2 := hs.cell2
        have g0 := hs.free
        have g1 := hs.free1
        have g2 := hs.free2
        have HS := hs.set (.bool pb) (.string ps) (.string pt)
        have HE := Lib.hid (HX.out _ BB.out)
        clear hs hb7
        go_wp2
        exact bodyPost_ret (v := .tuple #[.agg #[.bool pb, .string ps, .string pt], .int .i64 (e2 : Nat), .bool true]) (by simp [results, Tryz.results7, go_sem, HS]) rfl HE.out
      clear hRW34 hkk hmk hlen hM hfirst hgood hE2 hV hE1 hS hN hm1 hall hm2 hall2 hdot hB hbad RN1
      by_cases hM0 : M = 0
      · have HKF : Hid (k0 = false) := Lib.hid (by rw [HKK.out, HMK.out, decide_eq_false (show ¬ 0 < M by omega)]; rfl)
        subst hM0
        clear TAIL34 HMK
        go_wp2_with fail
        go_at_call 20
        refine (ZR.out _).mono ?_
        rintro e w9 ⟨rfl, hb9⟩
        have BB := Lib.hid (BB.out.go hb9)
        have hs := BB.out.now.1
        have r0 := hs.cell
        have r1 := hs.cell1
        have r2 := hs.cell2
        have g0 := hs.free
        have g1 := hs.free1
        have g2 := hs.free2
        have HS := hs.set (.bool zb) (.string zs) (.string zt)
        have HE := Lib.hid (ZZ.out _ BB.out HKF.out)
        clear hs hb9
        go_wp2
        exact bodyPost_ret (v := .tuple #[.agg #[.bool zb, .string zs, .string zt], .int .i64 0, .bool false]) (by simp [results, Tryz.results7, go_sem, HS]) rfl HE.out
      · have d0 : ((M : Int) == 0) = false := beq_eq_false_iff_ne.2 (by omega)
        by_cases hM2 : 200 < M
        · have HKF : Hid (k0 = false) := Lib.hid (by rw [HKK.out, HMK.out, decide_eq_false (show ¬ M ≤ 200 by omega), Bool.and_false]; rfl)
          have d1 : (200 : Int) < M := by omega
          clear TAIL34 HMK hM0 hM2
          go_wp2_with fail
          go_at_call 20
          refine (ZR.out _).mono ?_
          rintro e w9 ⟨rfl, hb9⟩
          have BB := Lib.hid (BB.out.go hb9)
          have hs := BB.out.now.1
          have r0 := hs.cell
          have r1 := hs.cell1
          have r2 := hs.cell2
          have g0 := hs.free
          have g1 := hs.free1
          have g2 := hs.free2
          have HS := hs.set (.bool zb) (.string zs) (.string zt)
          have HE := Lib.hid (ZZ.out _ BB.out HKF.out)
          clear hs hb9
          go_wp2
          exact bodyPost_ret (v := .tuple #[.agg #[.bool zb, .string zs, .string zt], .int .i64 0, .bool false]) (by simp [results, Tryz.results7, go_sem, HS]) rfl HE.out
        · have d1 : ¬ (200 : Int) < M := by omega
          have hmk : mK f n p1 = true := by rw [HMK.out, decide_eq_true (show 0 < M by omega), decide_eq_true (show M ≤ 200 by omega)]; rfl
          have TAILC := Lib.hid (fun v2 v3 v8 v12 v13 v14 v15 v16 v17 v18 v19 v20 v21 v22 v23 v24 v25 v26 v27 v28 v29 v30 v31 v32 v33 v34 v35 v36 v37 v38 v39 v40 v41 v42 v43 v44 v45 v46 v47 v48 v49 v50 v51 v52 v53 v54 v55 v56 v57 v58 v59 v60 v61 v62 v63 v64 v65 v66 v67 v68 v69 v70 v71 v72 v73 v74 v75 v76 v77 v78 v79 v80 v81 v82 v83 v84 v85 v86 v87 v88 v89 v90 v91 v92 v93 v94 v95 v96 v97 v98 v99 v100 v101 v102 v103 v104 v105 v106 v107 v108 v109 v110 v111 v112 v113 v114 v115 v116 v117 v118 v119 v120 v121 v122 v123 v124 v125 v126 v127 v128 v129 v130 v131 v132 v133 v134 v135 v136 v137 v138 v139 v140 v141 v142 v143 v144 v145 v146 v147 v148 v149 v150 => TAIL34.out v2 v3 v8 v12 v13 v14 v15 v16 v17 v18 v19 v20 v21 v22 v23 v24 v25 v26 v27 v28 v29 v30 v31 v32 v33 v34 v35 v36 v37 v38 v39 v40 v41 v42 v43 v44 v45 v46 v47 v48 v49 v50 v51 v52 v53 v54 v55 v56 v57 v58 v59 v60 v61 v62 v63 v64 v65 v66 v67 v68 v69 v70 v71 v72 v73 v74 v75 v76 v77 v78 v79 v80 v81 v82 v83 v84 v85 v86 v87 v88 v89 v90 v91 v92 v93 v94 v95 v96 v97 v98 v99 v100 v101 v102 v103 v104 v105 v106 v107 v108 v109 v110 v111 v112 v113 v114 v115 v116 v117 v118 v119 v120 v121 v122 v123 v124 v125 v126 v127 v128 v129 v130 v131 v132 v133 v134 v135 v136 v137 v138 v139 v140 v141 v142 v143 v144 v145 v146 v147 v148 v149 v150 hmk)
          clear TAIL34 hmk HMK hM0 hM2
          cases hy : eY f n e1 with
          | false =>
            have hek : eK f n e1 = true := by unfold eK; rw [hy]; rfl
            have hv0 : V = 0 := by rw [← HV.out]; unfold eV; rw [hy]; rfl
            have h20 : e2 = e1 := by rw [← HE2.out]; unfold eE; rw [hy]; rfl
            have TAILD := Lib.hid (fun v2 v3 v8 v12 v13 v14 v15 v16 v17 v18 v19 v20 v21 v22 v23 v24 v25 v26 v27 v28 v29 v30 v31 v32 v33 v34 v35 v36 v37 v38 v39 v40 v41 v42 v43 v44 v45 v46 v47 v48 v49 v50 v51 v52 v53 v54 v55 v56 v57 v58 v59 v60 v61 v62 v63 v64 v65 v66 v67 v68 v69 v70 v71 v72 v73 v74 v75 v76 v77 v78 v79 v80 v81 v82 v83 v84 v85 v86 v87 v88 v89 v90 v91 v92 v93 v94 v95 v96 v97 v98 v99 v100 v101 v102 v103 v104 v105 v106 v107 v108 v109 v110 v111 v112 v113 v114 v115 v116 v117 v118 v119 v120 v121 v122 v123 v124 v125 v126 v127 v128 v129 v130 v131 v132 v133 v134 v135 v136 v137 v138 v139 v140 v141 v142 v143 v144 v145 v146 v147 v148 v149 v150 => TAILC.out v2 v3 v8 v12 v13 v14 v15 v16 v17 v18 v19 v20 v21 v22 v23 v24 v25 v26 v27 v28 v29 v30 v31 v32 v33 v34 v35 v36 v37 v38 v39 v40 v41 v42 v43 v44 v45 v46 v47 v48 v49 v50 v51 v52 v53 v54 v55 v56 v57 v58 v59 v60 v61 v62 v63 v64 v65 v66 v67 v68 v69 v70 v71 v72 v73 v74 v75 v76 v77 v78 v79 v80 v81 v82 v83 v84 v85 v86 v87 v88 v89 v90 v91 v92 v93 v94 v95 v96 v97 v98 v99 v100 v101 v102 v103 v104 v105 v106 v107 v108 v109 v110 v111 v112 v113 v114 v115 v116 v117 v118 v119 v120 v121 v122 v123 v124 v125 v126 v127 v128 v129 v130 v131 v132 v133 v134 v135 v136 v137 v138 v139 v140 v141 v142 v143 v144 v145 v146 v147 v148 v149 v150 hek)
            subst hv0
            subst h20
            unfold eY skB at hy
            clear TAILC hek
            by_cases hlt : e2 < n
            · rw [decide_eq_true hlt, Bool.true_and] at hy
              have q1 := HC.out e2 hlt
              have d2 : (f e2 == 69) = false := beq_eq_false_iff_ne.2 (of_decide_eq_false hy)
              have d3 : (e2 : Int) < n := by omega
              clear hy
              generalize f e2 = xe at *
              go_wp2_with fail
              exact TAILD.out _ _ _ _ _ _ _ _ _ _ _ _ _ _ _ _ _ _ _ _ _ _ _ _ _ _ _ _ _ _ _ _ _ _ _ _ _ _ _ _ _ _ _ _ _ _ _ _ _ _ _ _ _ _ _ _ _ _ _ _ _ _ _ _ _ _ _ _ _ _ _ _ _ _ _ _ _ _ _ _ _ _ _ _ _ _ _ _ _ _ _ _ _ _ _ _ _ _ _ _ _ _ _ _ _ _ _ _ _ _ _ _ _ _ _ _ _ _ _ _ _ _ _ _ _ _ _ _ _ _ _ _ _ _ _ _ _ _ _ _ _ _
            · have d3 : ¬ (e2 : Int) < n := by omega
              clear hy hlt
              go_wp2_with fail
              exact TAILD.out _ _ _ _ _ _ _ _ _ _ _ _ _ _ _ _ _ _ _ _ _ _ _ _ _ _ _ _ _ _ _ _ _ _ _ _ _ _ _ _ _ _ _ _ _ _ _ _ _ _ _ _ _ _ _ _ _ _ _ _ _ _ _ _ _ _ _ _ _ _ _ _ _ _ _ _ _ _ _ _ _ _ _ _ _ _ _ _ _ _ _ _ _ _ _ _ _ _ _ _ _ _ _ _ _ _ _ _ _ _ _ _ _ _ _ _ _ _ _ _ _ _ _ _ _ _ _ _ _ _ _ _ _ _ _ _ _ _ _ _ _ _
          | true =>
            have hKe : eK f n e1 = (decide (0 < eM f n e1) && decide (eM f n e1 ≤ 3)) := by unfold eK; rw [hy]; rfl
            have hVe : V = if skB f n (e1 + 1) 175 then -(numOf (dtx f (eS f n e1) (eM f n e1)) : Int) else numOf (dtx f (eS f n e1) (eM f n e1)) := by rw [← HV.out]; unfold eV; rw [hy]; rfl
            have hEe : e2 = eS f n e1 + eM f n e1 := by rw [← HE2.out]; unfold eE; rw [hy]; rfl
            have hS : eS f n e1 = if skB f n (e1 + 1) 175 then e1 + 1 + 1 else e1 + 1 := rfl
            have hM9 : eM f n e1 = dgc f (eS f n e1) (n - eS f n e1) := rfl
            unfold eY skB at hy
            rw [Bool.and_eq_true, decide_eq_true_eq, decide_eq_true_eq] at hy
            obtain ⟨hlt, h69⟩ := hy
            have q1 := HC.out e1 hlt
            rw [h69] at q1
            have d3 : (e1 : Int) < n := by omega
            obtain ⟨es, hes⟩ : ∃ q, eS f n e1 = q := ⟨_, rfl⟩
            obtain ⟨m9, hm9⟩ : ∃ q, eM f n e1 = q := ⟨_, rfl⟩
            rw [hes] at hS hM9 hVe hEe
            rw [hm9] at hM9 hVe hEe hKe
            obtain ⟨p2, hp2⟩ : ∃ q, e1 + 1 = q := ⟨_, rfl⟩
            rw [hp2] at hS hVe
            have hw1 := IntWalk.i64_in ((e1 : Int) + 1) (by omega)
            have hw1' : (e1 : Int) + 1 = (p2 : Int) := by omega
            rw [hw1'] at hw1
            have hsk : skB f n p2 175 = (decide (p2 < n) && decide (f p2 = 175)) := rfl
            have hesn : es ≤ n := by
              rw [hS, hsk]
              by_cases e : p2 < n
              · split <;> omega
              · rw [decide_eq_false e, Bool.false_and, if_neg (by decide)]; omega
            have RN3 := Lib.hid (r4run_any (some ⟨b, off, none⟩) n c f es _ HKA.out hesn)
            rw [← hM9] at RN3
            have hall9 : ∀ j, j < m9 → isD (f (es + j)) = true := by rw [hM9]; exact dgc_all f _ _
            have hm9n : m9 ≤ n - es := by rw [hM9]; exact dgc_le f _ _
            have HKF0 : Hid (m9 = 0 ∨ 3 < m9 → k0 = false) := Lib.hid (fun h => by
              rw [HKK.out, hKe]
              rcases h with h | h
              · rw [decide_eq_false (show ¬ 0 < m9 by omega), Bool.false_and, Bool.and_false]
              · rw [decide_eq_false (show ¬ m9 ≤ 3 by omega), Bool.and_false, Bool.and_false])
            have HEK : Hid (0 < m9 → m9 ≤ 3 → eK f n e1 = true) := Lib.hid (fun h1 h2 => by rw [hKe, decide_eq_true h1, decide_eq_true h2]; rfl)
            have HNX := Lib.hid (fun i (hi : i < m9) => dtx_num (hall9 i hi))
            have HBD := Lib.hid (fun i (hi : i < m9) => isD_bds (hall9 i hi))
            have HLT : Hid (∀ i, i ≤ m9 → m9 ≤ 3 → numOf (dtx f es i) < 1000) := Lib.hid (fun i hi h3 => by
              have h1 := numOf_lt (dtx f es i) (fun x hx => dtx_dig (fun j hj => hall9 j (by omega)) hx)
              rw [dtx_length] at h1
              have h2 : (10 : Nat) ^ i ≤ 10 ^ 3 := Nat.pow_le_pow_right (by omega) (by omega)
              omega)
            have HEE := Lib.hid hEe
            clear hM9 hKe hall9 hes hm9 hEe h69
            cases hng : skB f n p2 175 with
            | true =>
              rw [hng] at hS hVe
              rw [if_pos rfl] at hS
              rw [hsk, Bool.and_eq_true, decide_eq_true_eq, decide_eq_true_eq] at hng
              obtain ⟨hlt2, h175⟩ := hng
              have q2 := HC.out p2 hlt2
              rw [h175] at q2
              have d4 : (p2 : Int) < n := by omega
              have hw8 := IntWalk.i64_in ((p2 : Int) + 1) (by omega)
              have hw8' : (p2 : Int) + 1 = (es : Int) := by omega
              have HW8 := Lib.hid hw8'
              clear hw8
              clear hsk h175 hS hw8' hp2
              by_cases hm0 : m9 = 0
              · have HKF := Lib.hid (HKF0.out (.inl hm0))
                subst hm0
                clear TAILC HKF0 HEK HNX HBD HLT hVe
                go_wp2_with fail
                go_at_call 21
                rw [HW8.out]
                with_reducible refine RN3.out.mono ?_
                rintro e w2 ⟨rfl, rfl⟩
                go_wp2_with fail
                go_at_call 20
                refine (ZR.out _).mono ?_
                rintro e w9 ⟨rfl, hb9⟩
                have BB := Lib.hid (BB.out.go hb9)
                have hs := BB.out.now.1
                have r0 := hs.cell
                have r1 := hs.cell1
                have r2 := hs.cell2
                have g0 := hs.free
                have g1 := hs.free1
                have g2 := hs.free2
                have HS := hs.set (.bool zb) (.string zs) (.string zt)
                have HE := Lib.hid (ZZ.out _ BB.out HKF.out)
                clear hs hb9
                go_wp2
                exact bodyPost_ret (v := .tuple #[.agg #[.bool zb, .string zs, .string zt], .int .i64 0, .bool false]) (by simp [results, Tryz.results7, go_sem, HS]) rfl HE.out
              · have d6 : ((m9 : Int) == 0) = false := beq_eq_false_iff_ne.2 (by omega)
                by_cases hm3 : 3 < m9
                · have HKF := Lib.hid (HKF0.out (.inr hm3))
                  have d7 : (3 : Int) < m9 := by omega
                  clear TAILC HKF0 HEK HNX HBD HLT hVe hm0 hm3
                  go_wp2_with fail
                  go_at_call 21
                  rw [HW8.out]
                  with_reducible refine RN3.out.mono ?_
                  rintro e w2 ⟨rfl, rfl⟩
                  go_wp2_with fail
                  go_at_call 20
                  refine (ZR.out _).mono ?_
                  rintro e w9 ⟨rfl, hb9⟩
                  have BB := Lib.hid (BB.out.go hb9)
                  have hs := BB.out.now.1
                  have r0 := hs.cell
                  have r1 := hs.cell1
                  have r2 := hs.cell2
                  have g0 := hs.free
                  have g1 := hs.free1
                  have g2 := hs.free2
                  have HS := hs.set (.bool zb) (.string zs) (.string zt)
                  have HE := Lib.hid (ZZ.out _ BB.out HKF.out)
                  clear hs hb9
                  go_wp2
                  exact bodyPost_ret (v := .tuple #[.agg #[.bool zb, .string zs, .string zt], .int .i64 0, .bool false]) (by simp [results, Tryz.results7, go_sem, HS]) rfl HE.out
                · have d7 : ¬ (3 : Int) < m9 := by omega
                  have TAILD := Lib.hid (fun v2 v3 v8 v12 v13 v14 v15 v16 v17 v18 v19 v20 v21 v22 v23 v24 v25 v26 v27 v28 v29 v30 v31 v32 v33 v34 v35 v36 v37 v38 v39 v40 v41 v42 v43 v44 v45 v46 v47 v48 v49 v50 v51 v52 v53 v54 v55 v56 v57 v58 v59 v60 v61 v62 v63 v64 v65 v66 v67 v68 v69 v70 v71 v72 v73 v74 v75 v76 v77 v78 v79 v80 v81 v82 v83 v84 v85 v86 v87 v88 v89 v90 v91 v92 v93 v94 v95 v96 v97 v98 v99 v100 v101 v102 v103 v104 v105 v106 v107 v108 v109 v110 v111 v112 v113 v114 v115 v116 v117 v118 v119 v120 v121 v122 v123 v124 v125 v126 v127 v128 v129 v130 v131 v132 v133 v134 v135 v136 v137 v138 v139 v140 v141 v142 v143 v144 v145 v146 v147 v148 v149 v150 => TAILC.out v2 v3 v8 v12 v13 v14 v15 v16 v17 v18 v19 v20 v21 v22 v23 v24 v25 v26 v27 v28 v29 v30 v31 v32 v33 v34 v35 v36 v37 v38 v39 v40 v41 v42 v43 v44 v45 v46 v47 v48 v49 v50 v51 v52 v53 v54 v55 v56 v57 v58 v59 v60 v61 v62 v63 v64 v65 v66 v67 v68 v69 v70 v71 v72 v73 v74 v75 v76 v77 v78 v79 v80 v81 v82 v83 v84 v85 v86 v87 v88 v89 v90 v91 v92 v93 v94 v95 v96 v97 v98 v99 v100 v101 v102 v103 v104 v105 v106 v107 v108 v109 v110 v111 v112 v113 v114 v115 v116 v117 v118 v119 v120 v121 v122 v123 v124 v125 v126 v127 v128 v129 v130 v131 v132 v133 v134 v135 v136 v137 v138 v139 v140 v141 v142 v143 v144 v145 v146 v147 v148 v149 v150 (HEK.out (by omega) (by omega)))
                  have HLT3 := Lib.hid (fun i hi => HLT.out i hi (by omega))
                  have hw9 := IntWalk.i64_in ((es : Int) + m9) (by omega)
                  have hw9' : (es : Int) + m9 = (e2 : Int) := by have := HEE.out; omega
                  rw [hw9'] at hw9
                  have hN3 := HLT3.out m9 (Nat.le_refl _)
                  have HVE := Lib.hid hVe
                  clear TAILC HKF0 HEK HLT hm0 hm3 hVe hw9'
                  go_wp2_with fail
                  go_at_call 21
                  rw [HW8.out]
                  with_reducible refine RN3.out.mono ?_
                  rintro e w2 ⟨rfl, rfl⟩
                  go_wp2_with fail
                  go_loop [11, 14] (fun ev iv => ∃ i : Nat, i ≤ m9 ∧ iv = .int .i64 i ∧ ev = .int .i64 ((numOf (dtx f es i) : Nat) : Int)) (fun _ iv => m9 - (intOf iv).toNat)
                  case atStart => exact ⟨0, by omega, rfl, rfl⟩
                  case round =>
                    obtain ⟨i, hi, rfl, rfl⟩ := hrel
                    by_cases hii : i < m9
                    · have HX := Lib.hid (HNX.out i hii)
                      obtain ⟨b0, b1⟩ := HBD.out i hii
                      have q9 := HC.out (es + i) (by omega)
                      have hE := HLT3.out i (by omega)
                      have hw2 := IntWalk.i64_in ((es : Int) + i) (by omega)
                      have hg2 : ((es : Int) + i).toNat = es + i := by omega
                      have d8 : (0 : Int) ≤ (es : Int) + i := by omega
                      have d9 : (es : Int) + i < n := by omega
                      have hw3 := IntWalk.i32_in (f (es + i) - 48) (by omega)
                      have hw4 := IntWalk.i64_in (f (es + i) - 48) (by omega)
                      have hw5 := IntWalk.i64_in (((numOf (dtx f es i) : Nat) : Int) * 10) (by omega)
                      have hw6 := IntWalk.i64_in (((numOf (dtx f es i) : Nat) : Int) * 10 + (f (es + i) - 48)) (by omega)
                      clear hE
                      generalize numOf (dtx f es i) = E at *
                      generalize f (es + i) = x at *
                      go_wp2
                      go_round
                      case rel => exact ⟨i + 1, by omega, by go_num, vint HX.out.symm⟩
                      case measure => simp [intOf]; omega
                    · obtain rfl : i = m9 := by omega
                      have hvv := HVE.out
                      try rw [if_pos rfl] at hvv
                      subst hvv
                      generalize numOf (dtx f es i) = E at *
                      have hw7 := IntWalk.i64_in (-(E : Int)) (by omega)
                      have HZ9 : Hid ((es : Int) + i = (e2 : Int)) := Lib.hid (by have := HEE.out; omega)
                      clear HVE HNX HBD HLT3 hii hN3
                      go_wp2_with fail
                      rw [HZ9.out]
                      exact TAILD.out _ _ _ _ _ _ _ _ _ _ _ _ _ _ _ _ _ _ _ _ _ _ _ _ _ _ _ _ _ _ _ _ _ _ _ _ _ _ _ _ _ _ _ _ _ _ _ _ _ _ _ _ _ _ _ _ _ _ _ _ _ _ _ _ _ _ _ _ _ _ _ _ _ _ _ _ _ _ _ _ _ _ _ _ _ _ _ _ _ _ _ _ _ _ _ _ _ _ _ _ _ _ _ _ _ _ _ _ _ _ _ _ _ _ _ _ _ _ _ _ _ _ _ _ _ _ _ _ _ _ _ _ _ _ _ _ _ _ _ _ _ _
            | false =>
              rw [hng] at hS hVe
              rw [if_neg (by decide)] at hS
              subst hS
              by_cases hlt2 : es < n
              · have hne : ¬ f es = 175 := fun h => by rw [hsk, decide_eq_true hlt2, decide_eq_true h] at hng; cases hng
                have q2 := HC.out es hlt2
                have d5 : (f es == 175) = false := beq_eq_false_iff_ne.2 hne
                have d4 : (es : Int) < n := by omega
                clear hsk hne hng hp2
                obtain ⟨xe, hxe⟩ : ∃ xe, f es = xe := ⟨_, rfl⟩
                rw [hxe] at q2 d5
                clear hxe
                by_cases hm0 : m9 = 0
                · have HKF := Lib.hid (HKF0.out (.inl hm0))
                  subst hm0
                  clear TAILC HKF0 HEK HNX HBD HLT hVe
                  go_wp2_with fail
                  go_at_call 21
                  with_reducible refine RN3.out.mono ?_
                  rintro e w2 ⟨rfl, rfl⟩
                  go_wp2_with fail
                  go_at_call 20
                  refine (ZR.out _).mono ?_
                  rintro e w9 ⟨rfl, hb9⟩
                  have BB := Lib.hid (BB.out.go hb9)
                  have hs := BB.out.now.1
                  have r0 := hs.cell
                  have r1 := hs.cell1
                  have r2 := hs.cell2
                  have g0 := hs.free
                  have g1 := hs.free1
                  have g2 := hs.free2
                  have HS := hs.set (.bool zb) (.string zs) (.string zt)
                  have HE := Lib.hid (ZZ.out _ BB.out HKF.out)
                  clear hs hb9
                  go_wp2
                  exact bodyPost_ret (v := .tuple #[.agg #[.bool zb, .string zs, .string zt], .int .i64 0, .bool false]) (by simp [results, Tryz.results7, go_sem, HS]) rfl HE.out
                · have d6 : ((m9 : Int) == 0) = false := beq_eq_false_iff_ne.2 (by omega)
                  by_cases hm3 : 3 < m9
                  · have HKF := Lib.hid (HKF0.out (.inr hm3))
                    have d7 : (3 : Int) < m9 := by omega
                    clear TAILC HKF0 HEK HNX HBD HLT hVe hm0 hm3
                    go_wp2_with fail
                    go_at_call 21
                    with_reducible refine RN3.out.mono ?_
                    rintro e w2 ⟨rfl, rfl⟩
                    go_wp2_with fail
                    go_at_call 20
                    refine (ZR.out _).mono ?_
                    rintro e w9 ⟨rfl, hb9⟩
                    have BB := Lib.hid (BB.out.go hb9)
                    have hs := BB.out.now.1
                    have r0 := hs.cell
                    have r1 := hs.cell1
                    have r2 := hs.cell2
                    have g0 := hs.free
                    have g1 := hs.free1
                    have g2 := hs.free2
                    have HS := hs.set (.bool zb) (.string zs) (.string zt)
                    have HE := Lib.hid (ZZ.out _ BB.out HKF.out)
                    clear hs hb9
                    go_wp2
                    exact bodyPost_ret (v := .tuple #[.agg #[.bool zb, .string zs, .string zt], .int .i64 0, .bool false]) (by simp [results, Tryz.results7, go_sem, HS]) rfl HE.out
                  · have d7 : ¬ (3 : Int) < m9 := by omega
                    have TAILD := Lib.hid (fun v2 v3 v8 v12 v13 v14 v15 v16 v17 v18 v19 v20 v21 v22 v23 v24 v25 v26 v27 v28 v29 v30 v31 v32 v33 v34 v35 v36 v37 v38 v39 v40 v41 v42 v43 v44 v45 v46 v47 v48 v49 v50 v51 v52 v53 v54 v55 v56 v57 v58 v59 v60 v61 v62 v63 v64 v65 v66 v67 v68 v69 v70 v71 v72 v73 v74 v75 v76 v77 v78 v79 v80 v81 v82 v83 v84 v85 v86 v87 v88 v89 v90 v91 v92 v93 v94 v95 v96 v97 v98 v99 v100 v101 v102 v103 v104 v105 v106 v107 v108 v109 v110 v111 v112 v113 v114 v115 v116 v117 v118 v119 v120 v121 v122 v123 v124 v125 v126 v127 v128 v129 v130 v131 v132 v133 v134 v135 v136 v137 v138 v139 v140 v141 v142 v143 v144 v145 v146 v147 v148 v149 v150 => TAILC.out v2 v3 v8 v12 v13 v14 v15 v16 v17 v18 v19 v20 v21 v22 v23 v24 v25 v26 v27 v28 v29 v30 v31 v32 v33 v34 v35 v36 v37 v38 v39 v40 v41 v42 v43 v44 v45 v46 v47 v48 v49 v50 v51 v52 v53 v54 v55 v56 v57 v58 v59 v60 v61 v62 v63 v64 v65 v66 v67 v68 v69 v70 v71 v72 v73 v74 v75 v76 v77 v78 v79 v80 v81 v82 v83 v84 v85 v86 v87 v88 v89 v90 v91 v92 v93 v94 v95 v96 v97 v98 v99 v100 v101 v102 v103 v104 v105 v106 v107 v108 v109 v110 v111 v112 v113 v114 v115 v116 v117 v118 v119 v120 v121 v122 v123 v124 v125 v126 v127 v128 v129 v130 v131 v132 v133 v134 v135 v136 v137 v138 v139 v140 v141 v142 v143 v144 v145 v146 v147 v148 v149 v150 (HEK.out (by omega) (by omega)))
                    have HLT3 := Lib.hid (fun i hi => HLT.out i hi (by omega))
                    have hw9 := IntWalk.i64_in ((es : Int) + m9) (by omega)
                    have hw9' : (es : Int) + m9 = (e2 : Int) := by have := HEE.out; omega
                    rw [hw9'] at hw9
                    have hN3 := HLT3.out m9 (Nat.le_refl _)
                    have HVE := Lib.hid hVe
                    clear TAILC HKF0 HEK HLT hm0 hm3 hVe hw9'
                    go_wp2_with fail
                    go_at_call 21
                    with_reducible refine RN3.out.mono ?_
                    rintro e w2 ⟨rfl, rfl⟩
                    go_wp2_with fail
                    go_loop [11, 14] (fun ev iv => ∃ i : Nat, i ≤ m9 ∧ iv = .int .i64 i ∧ ev = .int .i64 ((numOf (dtx f es i) : Nat) : Int)) (fun _ iv => m9 - (intOf iv).toNat)
                    case atStart => exact ⟨0, by omega, rfl, rfl⟩
                    case round =>
                      obtain ⟨i, hi, rfl, rfl⟩ := hrel
                      by_cases hii : i < m9
                      · have HX := Lib.hid (HNX.out i hii)
                        obtain ⟨b0, b1⟩ := HBD.out i hii
                        have q9 := HC.out (es + i) (by omega)
                        have hE := HLT3.out i (by omega)
                        have hw2 := IntWalk.i64_in ((es : Int) + i) (by omega)
                        have hg2 : ((es : Int) + i).toNat = es + i := by omega
                        have d8 : (0 : Int) ≤ (es : Int) + i := by omega
                        have d9 : (es : Int) + i < n := by omega
                        have hw3 := IntWalk.i32_in (f (es + i) - 48) (by omega)
                        have hw4 := IntWalk.i64_in (f (es + i) - 48) (by omega)
                        have hw5 := IntWalk.i64_in (((numOf (dtx f es i) : Nat) : Int) * 10) (by omega)
                        have hw6 := IntWalk.i64_in (((numOf (dtx f es i) : Nat) : Int) * 10 + (f (es + i) - 48)) (by omega)
                        clear hE
                        generalize numOf (dtx f es i) = E at *
                        generalize f (es + i) = x at *
                        go_wp2
                        go_round
                        case rel => exact ⟨i + 1, by omega, by go_num, vint HX.out.symm⟩
                        case measure => simp [intOf]; omega
                      · obtain rfl : i = m9 := by omega
                        have hvv := HVE.out
                        rw [if_neg (by decide)] at hvv
                        subst hvv
                        generalize numOf (dtx f es i) = E at *
                        have HZ9 : Hid ((es : Int) + i = (e2 : Int)) := Lib.hid (by have := HEE.out; omega)
                        clear HVE HNX HBD HLT3 hii hN3
                        go_wp2_with fail
                        rw [HZ9.out]
                        exact TAILD.out _ _ _ _ _ _ _ _ _ _ _ _ _ _ _ _ _ _ _ _ _ _ _ _ _ _ _ _ _ _ _ _ _ _ _ _ _ _ _ _ _ _ _ _ _ _ _ _ _ _ _ _ _ _ _ _ _ _ _ _ _ _ _ _ _ _ _ _ _ _ _ _ _ _ _ _ _ _ _ _ _ _ _ _ _ _ _ _ _ _ _ _ _ _ _ _ _ _ _ _ _ _ _ _ _ _ _ _ _ _ _ _ _ _ _ _ _ _ _ _ _ _ _ _ _ _ _ _ _ _ _ _ _ _ _ _ _ _ _ _ _ _
              · have d4 : ¬ (es : Int) < n := by omega
                clear hsk hng
                by_cases hm0 : m9 = 0
                · have HKF := Lib.hid (HKF0.out (.inl hm0))
                  subst hm0
                  clear TAILC HKF0 HEK HNX HBD HLT hVe
                  go_wp2_with fail
                  go_at_call 21
                  with_reducible refine RN3.out.mono ?_
                  rintro e w2 ⟨rfl, rfl⟩
                  go_wp2_with fail
                  go_at_call 20
                  refine (ZR.out _).mono ?_
                  rintro e w9 ⟨rfl, hb9⟩
                  have BB := Lib.hid (BB.out.go hb9)
                  have hs := BB.out.now.1
                  have r0 := hs.cell
                  have r1 := hs.cell1
                  have r2 := hs.cell2
                  have g0 := hs.free
                  have g1 := hs.free1
                  have g2 := hs.free2
                  have HS := hs.set (.bool zb) (.string zs) (.string zt)
                  have HE := Lib.hid (ZZ.out _ BB.out HKF.out)
                  clear hs hb9
                  go_wp2
                  exact bodyPost_ret (v := .tuple #[.agg #[.bool zb, .string zs, .string zt], .int .i64 0, .bool false]) (by simp [results, Tryz.results7, go_sem, HS]) rfl HE.out
                · exfalso
                  omega
    clear hRW16 HE1 HS1 HN
    unfold mE at hE1
    unfold mL at hS
    rw [hN] at hE1 hS hbad
    rw [hN] at hB
    clear hN
    generalize mA f n p1 = m1 at *
    obtain ⟨e0, he0⟩ : ∃ e0, p1 + m1 = e0 := ⟨_, rfl⟩
    rw [he0] at hdot hE1 hS hB hm2 hall2
    have hw0 := IntWalk.i64_in ((p1 : Int) + m1) (by omega)
    have hw0' : (p1 : Int) + m1 = (e0 : Int) := by omega
    rw [hw0'] at hw0
    have s1 : (p1 : Int) ≤ e0 := by omega
    have s2 : (e0 : Int) ≤ c := by omega
    have hcc : Hid (∀ o, (o = off + p1 ∨ (m1 = 0 ∧ o = off)) → (convert 22 9 (.slice (some ⟨b, o, none⟩) (e0 - p1) (c - p1))).run Tryz.prog (w.alloc (.cells #[.bool false, .string ⟨#[]⟩, .string ⟨#[]⟩] 34)) = .ok (.string (str (dtx f p1 m1))) (w.alloc (.cells #[.bool false, .string ⟨#[]⟩, .string ⟨#[]⟩] 34))) := Lib.hid (fun o ho => by
      rw [show e0 - p1 = m1 by omega]
      rcases ho with rfl | ⟨h0, rfl⟩
      · exact digits_conv _ _ n c f p1 m1 _ HKA.out (by omega) hall b off rfl
      · rw [h0]
        exact digits_conv _ _ n c f 0 0 _ HKA.out (by omega) (fun j hj => absurd hj (by omega)) b o rfl)
    cases hd : mD f n p1 with
    | false =>
      rw [hd, if_neg (by decide)] at hB hE1
      subst hB
      subst hE1
      rw [show dtx f (e0 + 1) 0 = [] from rfl, List.append_nil] at hS
      rw [hS] at hcc
      rw [hd] at hdot TAIL16
      have TAIL16 := Lib.hid (fun v2 v3 v8 v11 v12 v13 v14 v15 v16 v17 v18 v19 v20 v21 v22 v23 v24 v25 v26 v27 v28 v29 v30 v31 v32 v33 v34 v35 v36 v37 v38 v39 v40 v41 v42 v43 v44 v45 v46 v47 v48 v49 v50 v51 v52 v53 v54 v55 v56 v57 v58 v59 v60 v61 v62 v63 v64 v65 v66 v67 v68 v69 v70 v71 v72 v73 v74 v75 v76 v77 v78 v79 v80 v81 v82 v83 v84 v85 v86 v87 v88 v89 v90 v91 v92 v93 v94 v95 v96 v97 v98 v99 v100 v101 v102 v103 v104 v105 v106 v107 v108 v109 v110 v111 v112 v113 v114 v115 v116 v117 v118 v119 v120 v121 v122 v123 v124 v125 v126 v127 v128 v129 v130 v131 v132 v133 v134 v135 v136 v137 v138 v139 v140 v141 v142 v143 v144 v145 v146 v147 v148 v149 v150 => TAIL16.out v2 v3 v8 v11 v12 v13 v14 v15 v16 v17 v18 v19 v20 v21 v22 v23 v24 v25 v26 v27 v28 v29 v30 v31 v32 v33 v34 v35 v36 v37 v38 v39 v40 v41 v42 v43 v44 v45 v46 v47 v48 v49 v50 v51 v52 v53 v54 v55 v56 v57 v58 v59 v60 v61 v62 v63 v64 v65 v66 v67 v68 v69 v70 v71 v72 v73 v74 v75 v76 v77 v78 v79 v80 v81 v82 v83 v84 v85 v86 v87 v88 v89 v90 v91 v92 v93 v94 v95 v96 v97 v98 v99 v100 v101 v102 v103 v104 v105 v106 v107 v108 v109 v110 v111 v112 v113 v114 v115 v116 v117 v118 v119 v120 v121 v122 v123 v124 v125 v126 v127 v128 v129 v130 v131 v132 v133 v134 v135 v136 v137 v138 v139 v140 v141 v142 v143 v144 v145 v146 v147 v148 v149 v150 (fun h => absurd h (by decide)))
      unfold skB at hdot
      clear hbad hS hd hm2 hall2 hall hm1 he0
      by_cases hlt : e0 < n
      · rw [decide_eq_true hlt, Bool.true_and] at hdot
        have q1 := HC.out e0 hlt
        have d1 : (e0 : Int) < n := by omega
        have d2 : (f e0 == 46) = false := beq_eq_false_iff_ne.2 (of_decide_eq_false hdot.symm)
        have hcp : ¬ c = p1 := by omega
        have hcv := hcc.out (off + p1) (.inl rfl)
        clear hdot
        generalize f e0 = xe at *
        go_wp2_with fail
        go_at_call 21
        refine RN1.out.mono ?_
        rintro e w2 ⟨rfl, rfl⟩
        go_wp2_with fail
        exact TAIL16.out _ _ _ _ _ _ _ _ _ _ _ _ _ _ _ _ _ _ _ _ _ _ _ _ _ _ _ _ _ _ _ _ _ _ _ _ _ _ _ _ _ _ _ _ _ _ _ _ _ _ _ _ _ _ _ _ _ _ _ _ _ _ _ _ _ _ _ _ _ _ _ _ _ _ _ _ _ _ _ _ _ _ _ _ _ _ _ _ _ _ _ _ _ _ _ _ _ _ _ _ _ _ _ _ _ _ _ _ _ _ _ _ _ _ _ _ _ _ _ _ _ _ _ _ _ _ _ _ _ _ _ _ _ _ _ _ _ _ _ _ _ _ _
      · have d1 : ¬ (e0 : Int) < n := by omega
        clear hdot
        by_cases hcp : c = p1
        · have e1 : e0 = c := by omega
          have e2 : n = c := by omega
          have hcv := hcc.out off (.inr ⟨by omega, rfl⟩)
          rw [show e0 - p1 = 0 by omega, show c - p1 = 0 by omega] at hcv
          clear hlt
          subst hcp
          subst e1
          subst e2
          go_wp2_with fail
          go_at_call 21
          refine RN1.out.mono ?_
          rintro e w2 ⟨rfl, rfl⟩
          go_wp2_with fail
          exact TAIL16.out _ _ _ _ _ _ _ _ _ _ _ _ _ _ _ _ _ _ _ _ _ _ _ _ _ _ _ _ _ _ _ _ _ _ _ _ _ _ _ _ _ _ _ _ _ _ _ _ _ _ _ _ _ _ _ _ _ _ _ _ _ _ _ _ _ _ _ _ _ _ _ _ _ _ _ _ _ _ _ _ _ _ _ _ _ _ _ _ _ _ _ _ _ _ _ _ _ _ _ _ _ _ _ _ _ _ _ _ _ _ _ _ _ _ _ _ _ _ _ _ _ _ _ _ _ _ _ _ _ _ _ _ _ _ _ _ _ _ _ _ _ _ _
        · have hcv := hcc.out (off + p1) (.inl rfl)
          clear hlt
          go_wp2_with fail
          go_at_call 21
          refine RN1.out.mono ?_
          rintro e w2 ⟨rfl, rfl⟩
          go_wp2_with fail
          exact TAIL16.out _ _ _ _ _ _ _ _ _ _ _ _ _ _ _ _ _ _ _ _ _ _ _ _ _ _ _ _ _ _ _ _ _ _ _ _ _ _ _ _ _ _ _ _ _ _ _ _ _ _ _ _ _ _ _ _ _ _ _ _ _ _ _ _ _ _ _ _ _ _ _ _ _ _ _ _ _ _ _ _ _ _ _ _ _ _ _ _ _ _ _ _ _ _ _ _ _ _ _ _ _ _ _ _ _ _ _ _ _ _ _ _ _ _ _ _ _ _ _ _ _ _ _ _ _ _ _ _ _ _ _ _ _ _ _ _ _ _ _ _ _ _ _
    | true =>
      rw [hd, if_pos rfl] at hB hE1
      rw [hd] at hdot TAIL16 hbad
      unfold skB at hdot
      have hdd := hdot.symm
      clear hdot
      rw [Bool.and_eq_true, decide_eq_true_eq, decide_eq_true_eq] at hdd
      obtain ⟨hlt, hx⟩ := hdd
      rw [← hB] at hm2 hall2
      have RN2 := Lib.hid (r4run_any (some ⟨b, off, none⟩) n c f (e0 + 1) _ HKA.out (by omega))
      rw [← hB] at RN2
      clear hB hd
      obtain ⟨e9, he9⟩ : ∃ q, e0 + 1 = q := ⟨_, rfl⟩
      rw [he9] at hE1 hS hm2 hall2 RN2
      have q1 := HC.out e0 hlt
      have d1 : (e0 : Int) < n := by omega
      have d2 : (f e0 == 46) = true := beq_iff_eq.2 hx
      clear hx
      generalize f e0 = xe at *
      have hcp : ¬ c = p1 := by omega
      have hz1 := str_size (dtx f p1 m1)
      rw [dtx_length] at hz1
      rw [← str_append] at hS
      generalize str (dtx f p1 m1) = tx at *
      have hcv := hcc.out (off + p1) (.inl rfl)
      have hw1 := IntWalk.i64_in ((e0 : Int) + 1) (by omega)
      have hw1' : (e0 : Int) + 1 = (e9 : Int) := by omega
      rw [hw1'] at hw1
      by_cases hN0 : N = 0
      · have hk := hbad.out rfl hN0
        subst hN0
        have HKF := Lib.hid hk
        clear hk hbad TAIL16 hS hE1 hall hall2 hm1 hm2 he0 he9
        go_wp2_with fail
        go_at_call 21
        refine RN1.out.mono ?_
        rintro e w2 ⟨rfl, rfl⟩
        go_wp2_with fail
        go_at_call 21
        refine RN2.out.mono ?_
        rintro e w2 ⟨rfl, rfl⟩
        go_wp2_with fail
        go_at_call 20
        refine (ZR.out _).mono ?_
        rintro e w9 ⟨rfl, hb9⟩
        have BB := Lib.hid (BB.out.go hb9)
        have hs := BB.out.now.1
        have r0 := hs.cell
        have r1 := hs.cell1
        have r2 := hs.cell2
        have g0 := hs.free
        have g1 := hs.free1
        have g2 := hs.free2
        have HS := hs.set (.bool zb) (.string zs) (.string zt)
        have HE := Lib.hid (ZZ.out _ BB.out HKF.out)
        clear hs hb9
        go_wp2
        exact bodyPost_ret (v := .tuple #[.agg #[.bool zb, .string zs, .string zt], .int .i64 0, .bool false]) (by simp [results, Tryz.results7, go_sem, HS]) rfl HE.out
      · have d0 : ((N : Int) == 0) = false := beq_eq_false_iff_ne.2 (by omega)
        have TAILB := Lib.hid (fun v2 v3 v8 v11 v12 v13 v14 v15 v16 v17 v18 v19 v20 v21 v22 v23 v24 v25 v26 v27 v28 v29 v30 v31 v32 v33 v34 v35 v36 v37 v38 v39 v40 v41 v42 v43 v44 v45 v46 v47 v48 v49 v50 v51 v52 v53 v54 v55 v56 v57 v58 v59 v60 v61 v62 v63 v64 v65 v66 v67 v68 v69 v70 v71 v72 v73 v74 v75 v76 v77 v78 v79 v80 v81 v82 v83 v84 v85 v86 v87 v88 v89 v90 v91 v92 v93 v94 v95 v96 v97 v98 v99 v100 v101 v102 v103 v104 v105 v106 v107 v108 v109 v110 v111 v112 v113 v114 v115 v116 v117 v118 v119 v120 v121 v122 v123 v124 v125 v126 v127 v128 v129 v130 v131 v132 v133 v134 v135 v136 v137 v138 v139 v140 v141 v142 v143 v144 v145 v146 v147 v148 v149 v150 => TAIL16.out v2 v3 v8 v11 v12 v13 v14 v15 v16 v17 v18 v19 v20 v21 v22 v23 v24 v25 v26 v27 v28 v29 v30 v31 v32 v33 v34 v35 v36 v37 v38 v39 v40 v41 v42 v43 v44 v45 v46 v47 v48 v49 v50 v51 v52 v53 v54 v55 v56 v57 v58 v59 v60 v61 v62 v63 v64 v65 v66 v67 v68 v69 v70 v71 v72 v73 v74 v75 v76 v77 v78 v79 v80 v81 v82 v83 v84 v85 v86 v87 v88 v89 v90 v91 v92 v93 v94 v95 v96 v97 v98 v99 v100 v101 v102 v103 v104 v105 v106 v107 v108 v109 v110 v111 v112 v113 v114 v115 v116 v117 v118 v119 v120 v121 v122 v123 v124 v125 v126 v127 v128 v129 v130 v131 v132 v133 v134 v135 v136 v137 v138 v139 v140 v141 v142 v143 v144 v145 v146 v147 v148 v149 v150 (fun _ => hN0))
        clear TAIL16
        have hw2 := IntWalk.i64_in ((e9 : Int) + N) (by omega)
        have hw2' : (e9 : Int) + N = (e1 : Int) := by omega
        rw [hw2'] at hw2
        have s3 : (e9 : Int) ≤ e1 := by omega
        have s4 : (e1 : Int) ≤ c := by omega
        have hcq : ¬ c = e9 := by omega
        have hcv2 := digits_conv (w.alloc (.cells #[.bool false, .string ⟨#[]⟩, .string ⟨#[]⟩] 34)) _ n c f e9 N (c - e9) HKA.out (by omega) hall2 b off rfl
        rw [show N = e1 - e9 by omega] at hcv2
        have hz2 := str_size (dtx f e9 (e1 - e9))
        rw [dtx_length] at hz2
        have hbig : m1 + (e1 - e9) < 9223372036854775808 := by omega
        rw [show N = e1 - e9 by omega] at hS
        clear hbad hE1 hall hall2 hm1 hm2 hN0 he0 he9
        generalize str (dtx f e9 (e1 - e9)) = tx2 at *
        go_wp2_with fail
        go_at_call 21
        refine RN1.out.mono ?_
        rintro e w2 ⟨rfl, rfl⟩
        go_wp2_with fail
        go_at_call 21
        refine RN2.out.mono ?_
        rintro e w2 ⟨rfl, rfl⟩
        go_wp2_with fail
        exact TAILB.out _ _ _ _ _ _ _ _ _ _ _ _ _ _ _ _ _ _ _ _ _ _ _ _ _ _ _ _ _ _ _ _ _ _ _ _ _ _ _ _ _ _ _ _ _ _ _ _ _ _ _ _ _ _ _ _ _ _ _ _ _ _ _ _ _ _ _ _ _ _ _ _ _ _ _ _ _ _ _ _ _ _ _ _ _ _ _ _ _ _ _ _ _ _ _ _ _ _ _ _ _ _ _ _ _ _ _ _ _ _ _ _ _ _ _ _ _ _ _ _ _ _ _ _ _ _ _ _ _ _ _ _ _ _ _ _ _ _ _ _ _ _ _
  clear hRW6
  cases sg with
  | false =>
    obtain rfl : p1 = p := hp1
    go_wp2_with fail
    go_at_call 9
    refine (BG.out _ HKA.out).mono ?_
    rintro e w2 ⟨rfl, rfl⟩
    go_wp2_with fail
    exact TAIL6.out _ _ _ _ _ _ _ _ _ _ _ _ _ _ _ _ _ _ _ _ _ _ _ _ _ _ _ _ _ _ _ _ _ _ _ _ _ _ _ _ _ _ _ _ _ _ _ _ _ _ _ _ _ _ _ _ _ _ _ _ _ _ _ _ _ _ _ _ _ _ _ _ _ _ _ _ _ _ _ _ _ _ _ _ _ _ _ _ _ _ _ _ _ _ _ _ _ _ _ _ _ _ _ _ _ _ _ _ _ _ _ _ _ _ _ _ _ _ _ _ _ _ _ _ _ _ _ _ _ _ _ _ _ _ _ _ _ _ _ _ _ _ _ _ _
  | true =>
    have hw1 := IntWalk.i64_in ((p : Int) + 1) (by omega)
    have hw2 : (p : Int) + 1 = (p1 : Int) := by rw [if_pos rfl] at hp1; omega
    rw [hw2] at hw1
    clear hp1
    go_wp2_with fail
    go_at_call 9
    refine (BG.out _ HKA.out).mono ?_
    rintro e w2 ⟨rfl, rfl⟩
    go_wp2_with fail
    exact TAIL6.out _ _ _ _ _ _ _ _ _ _ _ _ _ _ _ _ _ _ _ _ _ _ _ _ _ _ _ _ _ _ _ _ _ _ _ _ _ _ _ _ _ _ _ _ _ _ _ _ _ _ _ _ _ _ _ _ _ _ _ _ _ _ _ _ _ _ _ _ _ _ _ _ _ _ _ _ _ _ _ _ _ _ _ _ _ _ _ _ _ _ _ _ _ _ _ _ _ _ _ _ _ _ _ _ _ _ _ _ _ _ _ _ _ _ _ _ _ _ _ _ _ _ _ _ _ _ _ _ _ _ _ _ _ _ _ _ _ _ _ _ _ _ _ _ _

end Go.Proofs.YtgpcfncolhmgfaaGreatDoor
