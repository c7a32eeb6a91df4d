/- TablePlays: what a step does, whichever it is. -/
import Derived.Test.YtkhheooofcpfdaaGreatDoorMiB
import Derived.Test.YtkhheooofcpfdaaGreatDoorTblP3
import Derived.Test.YtkhheooofcpfdaaGreatDoorTblP4
import Derived.Test.YtkhheooofcpfdaaGreatDoorMiC
namespace Go.Proofs.YtkhheooofcpfdaaGreatDoor
open Go.RowKit Go.Maps
set_option linter.unusedVariables false
set_option maxRecDepth 100000 in
set_option maxHeartbeats 32000000 in
theorem tp_sw (w W0:World) (A M V KB SB l c fl fc:Nat) (a fa:Option Addr) (t u:Tb) (k:Ky) (s:Sg) (fs:List Fl) (z0 z1 z2 z3:Int) (K:Act→World→Prop) (E:Exit→Act→World→Prop) (C:Code) (hC:C=tpBlk 4)
  (HO:Hid (TpO w A M)) (HT:Hid (TpT w A M t u W0)) (HN:Hid (TpN t u)) (HV:Hid (V4At W0 V z0 z1 z2 z3)) (HVL:Hid (w.heap.size≤V)) (HKY:Hid (KyAt W0 KB k)) (HKL:Hid (w.heap.size≤KB)) (HKO:Hid (KyOk k)) (HSG:Hid (SgAt W0 SB s (.slice a l c)))
  (HBY:Hid (∀ W,Below w.heap.size w W→Bytes W (.slice a l c) s.body)) (HFS:Hid (Fls w (.slice fa fl fc) fs)) (HE:Hid (∀ W,Below w.heap.size w W→ErrLaid W)) (HL:Hid (∀ W,Below w.heap.size w W→Lives W)) (hfl:fl=fs.length)
  (v0 v1 v3 v4 v5 v6 v7 v8 v10 v11 v12 v14 v16 v20 v21 v22 v23 v24 v25 v26 v27 v28 v29 v30 v31 v32 v33 v34 v35 v36 v37 v38 v39 v40 v41 v42 v43 v44 v45 v46 v47 v48 v49 v50 v51 v52 v53 v54 v55 v56 v57 v58 v59 v60 v61 v62 v63 v64 v65 v66 v67 v68 v69 v70 v71 v72 v73 v74 v75 v76 v77 v78 v79 v80 v81 v82 v83 v84 v85 v86 v87 v88 v89 v90 v91 v92 v93 v94 v95 v96 v97 v98 v99 v2s v2t v2u v2v v2w v2x v2y v2z v108 v109 v110 v111 v112 v113 v114 v115 v116 v117 v3a v3b v3c v3d v3e v3f v3g v3h v3i v3j v3k v3l v3n v3o v3p v3q v3r v3s v3t v3u v3v v3w v3x v3y v3z v144 v145 v146 v147 v148 v149 v150 v151 v152 v153 v4a v4b v4c v4d v4e v4f v4g v4h v4i v4j v4k v4l v4m v4n v4o v4p v4q v4r v4s v4t v4u v4v v4w v4x v4y v4z v180 v181 v182 v183 v184 v185 v186 v187 v188 v189 v5a v5b v5c v5d v5e v5f v5g v5h v5i v5j v5k v5l v5m v5n v5o v5p v5q v5r v5s v5t v5u v5v v5w v5x v5y v5z v216 v217 v218 v219 v220 v221 v222 v223 v224 v225 v6a v6b v6c v6d v6e v6f v6g v6h v6i v6j v6k v6l v6m v6n v6o v6p v6q v6r v6s v6t v6u v6v v6w v6x v6y v6z v252 v253 v254 v255 v256 v257 v258 v259 v260 v261 v7a v7b v7c v7d v7e v7f v7g v7h v7i v7j v7k v7l v7m v7n v7o v7p v7q v7r v7s v7t v7u v7v v7w v7x v7y v7z v288 v289 v290 v291 v292 v293 v294 v295 v296 v297 v8a v8b v8c v8d v8e v8f v8g v8h v8i v8j v8k v8l v8m:Value)
  (hK:∀ (W9:World) (u20 u21 u22 u23 u24 u25 u26 u27 u28 u29 u30 u31 u32 u33 u34 u35 u36 u37 u3n u3o u3p u3q u3r u3s u3t u3u u3v u3w u3x u3y u3z u144 u145 u146 u43 u44 u45 u46 u47 u48 u49 u4a u4b u4c u4d u4e u4f u4g u4h u4i u4j u4k u4l u4m u4n u4o u4p u4q u4r u4s u4t u4u u4v u4w u4x u4y u4z u50 u51 u52 u53 u54 u55 u56 u57 u58 u59 u5a u5b u5c u5d u5e u5f u5g u5h u5i u5j u5k u5l u5m u5n u5o u5p u5q u5r u5s u5t u5u u5v u5w u5x u5y u5z u60 u61 u62 u63 u64 u65 u66 u223 u224 u225 u6a u6b u6c u6d u6e u6f u6g u6h u6i u6j u6k u6l u6m u6n u6o u6p u6q u6r u6s u6t u6u u6v u6w u6x u6y u6z u252 u253 u254 u255 u256 u257 u258 u259 u260 u261 u7a u7b u7c:Value),TpS w A M W9→(∃ k',KyOk k'∧KyAt W9 KB k')→K { tmps:=#[v0,v1,.slice fa fl fc,v3,v4,v5,v6,v7,v8,.pointer (some ⟨A,0,none⟩),v10,v11,.bool true,.pointer (some ⟨M,0,none⟩),v14,.pointer (some ⟨V,0,none⟩),v16,.pointer (some ⟨KB,0,none⟩),.pointer (some ⟨SB,0,none⟩),.int .i64 z3,u20,u21,u22,u23,u24,u25,u26,u27,u28,u29,u30,u31,u32,u33,u34,u35,u36,u37,v38,v39,v40,v41,v42,v43,v44,v45,v46,v47,v48,v49,v50,v51,v52,v53,v54,v55,v56,v57,v58,v59,v60,v61,v62,v63,v64,v65,v66,v67,v68,v69,v70,v71,v72,v73,v74,v75,v76,v77,v78,v79,v80,v81,v82,v83,v84,v85,v86,v87,v88,v89,v90,v91,v92,v93,v94,v95,v96,v97,v98,v99,v2s,v2t,v2u,v2v,v2w,v2x,v2y,v2z,v108,v109,v110,v111,v112,v113,v114,v115,v116,v117,v3a,v3b,v3c,v3d,v3e,v3f,v3g,v3h,v3i,v3j,v3k,v3l,.int .i64 z0,u3n,u3o,u3p,u3q,u3r,u3s,u3t,u3u,u3v,u3w,u3x,u3y,u3z,u144,u145,u146,u43,u44,u45,u46,u47,u48,u49,u4a,u4b,u4c,u4d,u4e,u4f,u4g,u4h,u4i,u4j,u4k,u4l,u4m,u4n,u4o,u4p,u4q,u4r,u4s,u4t,u4u,u4v,u4w,u4x,u4y,u4z,u50,u51,u52,u53,u54,u55,u56,u57,u58,u59,u5a,u5b,u5c,u5d,u5e,u5f,u5g,u5h,u5i,u5j,u5k,u5l,u5m,u5n,u5o,u5p,u5q,u5r,u5s,u5t,u5u,u5v,u5w,u5x,u5y,u5z,u60,u61,u62,u63,u64,u65,u66,u223,u224,u225,u6a,u6b,u6c,u6d,u6e,u6f,u6g,u6h,u6i,u6j,u6k,u6l,u6m,u6n,u6o,u6p,u6q,u6r,u6s,u6t,u6u,u6v,u6w,u6x,u6y,u6z,u252,u253,u254,u255,u256,u257,u258,u259,u260,u261,u7a,u7b,u7c,v7d,v7e,v7f,v7g,v7h,v7i,v7j,v7k,v7l,v7m,v7n,v7o,v7p,v7q,v7r,v7s,v7t,v7u,v7v,v7w,v7x,v7y,v7z,v288,v289,v290,v291,v292,v293,v294,v295,v296,v297,v8a,v8b,v8c,v8d,v8e,v8f,v8g,v8h,v8i,v8j,v8k,v8l,v8m],defers:=[] } W9) :
  Code.wp Tryz.prog C (Exit.then K E) { tmps:=#[v0,v1,.slice fa fl fc,v3,v4,v5,v6,v7,v8,.pointer (some ⟨A,0,none⟩),v10,v11,v12,.pointer (some ⟨M,0,none⟩),v14,.pointer (some ⟨V,0,none⟩),v16,.pointer (some ⟨KB,0,none⟩),.pointer (some ⟨SB,0,none⟩),.int .i64 z3,v20,v21,v22,v23,v24,v25,v26,v27,v28,v29,v30,v31,v32,v33,v34,v35,v36,v37,v38,v39,v40,v41,v42,v43,v44,v45,v46,v47,v48,v49,v50,v51,v52,v53,v54,v55,v56,v57,v58,v59,v60,v61,v62,v63,v64,v65,v66,v67,v68,v69,v70,v71,v72,v73,v74,v75,v76,v77,v78,v79,v80,v81,v82,v83,v84,v85,v86,v87,v88,v89,v90,v91,v92,v93,v94,v95,v96,v97,v98,v99,v2s,v2t,v2u,v2v,v2w,v2x,v2y,v2z,v108,v109,v110,v111,v112,v113,v114,v115,v116,v117,v3a,v3b,v3c,v3d,v3e,v3f,v3g,v3h,v3i,v3j,v3k,v3l,.int .i64 z0,v3n,v3o,v3p,v3q,v3r,v3s,v3t,v3u,v3v,v3w,v3x,v3y,v3z,v144,v145,v146,v147,v148,v149,v150,v151,v152,v153,v4a,v4b,v4c,v4d,v4e,v4f,v4g,v4h,v4i,v4j,v4k,v4l,v4m,v4n,v4o,v4p,v4q,v4r,v4s,v4t,v4u,v4v,v4w,v4x,v4y,v4z,v180,v181,v182,v183,v184,v185,v186,v187,v188,v189,v5a,v5b,v5c,v5d,v5e,v5f,v5g,v5h,v5i,v5j,v5k,v5l,v5m,v5n,v5o,v5p,v5q,v5r,v5s,v5t,v5u,v5v,v5w,v5x,v5y,v5z,v216,v217,v218,v219,v220,v221,v222,v223,v224,v225,v6a,v6b,v6c,v6d,v6e,v6f,v6g,v6h,v6i,v6j,v6k,v6l,v6m,v6n,v6o,v6p,v6q,v6r,v6s,v6t,v6u,v6v,v6w,v6x,v6y,v6z,v252,v253,v254,v255,v256,v257,v258,v259,v260,v261,v7a,v7b,v7c,v7d,v7e,v7f,v7g,v7h,v7i,v7j,v7k,v7l,v7m,v7n,v7o,v7p,v7q,v7r,v7s,v7t,v7u,v7v,v7w,v7x,v7y,v7z,v288,v289,v290,v291,v292,v293,v294,v295,v296,v297,v8a,v8b,v8c,v8d,v8e,v8f,v8g,v8h,v8i,v8j,v8k,v8l,v8m],defers:=[] } W0:=by
 conv =>
  arg 4
  zeta
 have hs:z0=0∨z0=1∨z0=2∨z0=3∨z0=4∨z0=5∨z0=6∨((z0 == 0)=false∧(z0 == 1)=false∧(z0 == 2)=false∧(z0 == 3)=false∧(z0 == 4)=false∧(z0 == 5)=false∧(z0 == 6)=false):=by
  simp only [beq_eq_false_iff_ne,ne_eq]
  omega
 rcases hs with rfl|rfl|rfl|rfl|rfl|rfl|rfl|⟨e0,e1,e2,e3,e4,e5,e6⟩
 ·refine tp_beg w W0 A M V KB SB l c fl fc a fa t u k s fs 0 z1 z2 z3 K E C hC HO HT HN HV HVL HKY HKL HKO HSG HBY HFS HE (.inl rfl) HL _ _ _ _ _ _ _ _ _ _ _ _ _ _ _ _ _ _ _ _ _ _ _ _ _ _ _ _ _ _ _ _ _ _ _ _ _ _ _ _ _ _ _ _ _ _ _ _ _ _ _ _ _ _ _ _ _ _ _ _ _ _ _ _ _ _ _ _ _ _ _ _ _ _ _ _ _ _ _ _ _ _ _ _ _ _ _ _ _ _ _ _ _ _ _ _ _ _ _ _ _ _ _ _ _ _ _ _ _ _ _ _ _ _ _ _ _ _ _ _ _ _ _ _ _ _ _ _ _ _ _ _ _ _ _ _ _ _ _ _ _ _ _ _ _ _ _ _ _ _ _ _ _ _ _ _ _ _ _ _ _ _ _ _ _ _ _ _ _ _ _ _ _ _ _ _ _ _ _ _ _ _ _ _ _ _ _ _ _ _ _ _ _ _ _ _ _ _ _ _ _ _ _ _ _ _ _ _ _ _ _ _ _ _ _ _ _ _ _ _ _ _ _ _ _ _ _ _ _ _ _ _ _ _ _ _ _ _ _ _ _ _ _ _ _ _ _ _ _ _ _ _ _ _ _ _ _ _ _ _ _ _ _ _ _ _ _ _ _ _ _ _ _ _ _ _ _ _ _ _ _ _ _ _ _ _ _ _ _ _ _ _ _ _ _ _ _ _ _ _ _ _ _ ?_;exact hK
 ·refine tp_beg w W0 A M V KB SB l c fl fc a fa t u k s fs 1 z1 z2 z3 K E C hC HO HT HN HV HVL HKY HKL HKO HSG HBY HFS HE (.inr rfl) HL _ _ _ _ _ _ _ _ _ _ _ _ _ _ _ _ _ _ _ _ _ _ _ _ _ _ _ _ _ _ _ _ _ _ _ _ _ _ _ _ _ _ _ _ _ _ _ _ _ _ _ _ _ _ _ _ _ _ _ _ _ _ _ _ _ _ _ _ _ _ _ _ _ _ _ _ _ _ _ _ _ _ _ _ _ _ _ _ _ _ _ _ _ _ _ _ _ _ _ _ _ _ _ _ _ _ _ _ _ _ _ _ _ _ _ _ _ _ _ _ _ _ _ _ _ _ _ _ _ _ _ _ _ _ _ _ _ _ _ _ _ _ _ _ _ _ _ _ _ _ _ _ _ _ _ _ _ _ _ _ _ _ _ _ _ _ _ _ _ _ _ _ _ _ _ _ _ _ _ _ _ _ _ _ _ _ _ _ _ _ _ _ _ _ _ _ _ _ _ _ _ _ _ _ _ _ _ _ _ _ _ _ _ _ _ _ _ _ _ _ _ _ _ _ _ _ _ _ _ _ _ _ _ _ _ _ _ _ _ _ _ _ _ _ _ _ _ _ _ _ _ _ _ _ _ _ _ _ _ _ _ _ _ _ _ _ _ _ _ _ _ _ _ _ _ _ _ _ _ _ _ _ _ _ _ _ _ _ _ _ _ _ _ _ _ _ _ _ _ _ _ _ _ ?_;exact hK
 ·cases hr:(Int.tmod z2 2 == 1)
  ·refine tp_offa w W0 A M V KB SB l c fl fc a fa t u k s fs 2 z1 z2 z3 K E C hC HO HT HN HV HVL HKY HKL HKO HSG HBY HFS HE (.inl rfl) hr HL _ _ _ _ _ _ _ _ _ _ _ _ _ _ _ _ _ _ _ _ _ _ _ _ _ _ _ _ _ _ _ _ _ _ _ _ _ _ _ _ _ _ _ _ _ _ _ _ _ _ _ _ _ _ _ _ _ _ _ _ _ _ _ _ _ _ _ _ _ _ _ _ _ _ _ _ _ _ _ _ _ _ _ _ _ _ _ _ _ _ _ _ _ _ _ _ _ _ _ _ _ _ _ _ _ _ _ _ _ _ _ _ _ _ _ _ _ _ _ _ _ _ _ _ _ _ _ _ _ _ _ _ _ _ _ _ _ _ _ _ _ _ _ _ _ _ _ _ _ _ _ _ _ _ _ _ _ _ _ _ _ _ _ _ _ _ _ _ _ _ _ _ _ _ _ _ _ _ _ _ _ _ _ _ _ _ _ _ _ _ _ _ _ _ _ _ _ _ _ _ _ _ _ _ _ _ _ _ _ _ _ _ _ _ _ _ _ _ _ _ _ _ _ _ _ _ _ _ _ _ _ _ _ _ _ _ _ _ _ _ _ _ _ _ _ _ _ _ _ _ _ _ _ _ _ _ _ _ _ _ _ _ _ _ _ _ _ _ _ _ _ _ _ _ _ _ _ _ _ _ _ _ _ _ _ _ _ _ _ _ _ _ _ _ _ _ _ _ _ _ _ _ _ ?_;exact hK
  ·refine tp_offb w W0 A M V KB SB l c fl fc a fa t u k s fs 2 z1 z2 z3 K E C hC HO HT HN HV HVL HKY HKL HKO HSG HBY HFS HE (.inl rfl) hr HL _ _ _ _ _ _ _ _ _ _ _ _ _ _ _ _ _ _ _ _ _ _ _ _ _ _ _ _ _ _ _ _ _ _ _ _ _ _ _ _ _ _ _ _ _ _ _ _ _ _ _ _ _ _ _ _ _ _ _ _ _ _ _ _ _ _ _ _ _ _ _ _ _ _ _ _ _ _ _ _ _ _ _ _ _ _ _ _ _ _ _ _ _ _ _ _ _ _ _ _ _ _ _ _ _ _ _ _ _ _ _ _ _ _ _ _ _ _ _ _ _ _ _ _ _ _ _ _ _ _ _ _ _ _ _ _ _ _ _ _ _ _ _ _ _ _ _ _ _ _ _ _ _ _ _ _ _ _ _ _ _ _ _ _ _ _ _ _ _ _ _ _ _ _ _ _ _ _ _ _ _ _ _ _ _ _ _ _ _ _ _ _ _ _ _ _ _ _ _ _ _ _ _ _ _ _ _ _ _ _ _ _ _ _ _ _ _ _ _ _ _ _ _ _ _ _ _ _ _ _ _ _ _ _ _ _ _ _ _ _ _ _ _ _ _ _ _ _ _ _ _ _ _ _ _ _ _ _ _ _ _ _ _ _ _ _ _ _ _ _ _ _ _ _ _ _ _ _ _ _ _ _ _ _ _ _ _ _ _ _ _ _ _ _ _ _ _ _ _ _ _ _ _ ?_;exact hK
 ·cases hr:(Int.tmod z2 2 == 1)
  ·refine tp_offa w W0 A M V KB SB l c fl fc a fa t u k s fs 3 z1 z2 z3 K E C hC HO HT HN HV HVL HKY HKL HKO HSG HBY HFS HE (.inr rfl) hr HL _ _ _ _ _ _ _ _ _ _ _ _ _ _ _ _ _ _ _ _ _ _ _ _ _ _ _ _ _ _ _ _ _ _ _ _ _ _ _ _ _ _ _ _ _ _ _ _ _ _ _ _ _ _ _ _ _ _ _ _ _ _ _ _ _ _ _ _ _ _ _ _ _ _ _ _ _ _ _ _ _ _ _ _ _ _ _ _ _ _ _ _ _ _ _ _ _ _ _ _ _ _ _ _ _ _ _ _ _ _ _ _ _ _ _ _ _ _ _ _ _ _ _ _ _ _ _ _ _ _ _ _ _ _ _ _ _ _ _ _ _ _ _ _ _ _ _ _ _ _ _ _ _ _ _ _ _ _ _ _ _ _ _ _ _ _ _ _ _ _ _ _ _ _ _ _ _ _ _ _ _ _ _ _ _ _ _ _ _ _ _ _ _ _ _ _ _ _ _ _ _ _ _ _ _ _ _ _ _ _ _ _ _ _ _ _ _ _ _ _ _ _ _ _ _ _ _ _ _ _ _ _ _ _ _ _ _ _ _ _ _ _ _ _ _ _ _ _ _ _ _ _ _ _ _ _ _ _ _ _ _ _ _ _ _ _ _ _ _ _ _ _ _ _ _ _ _ _ _ _ _ _ _ _ _ _ _ _ _ _ _ _ _ _ _ _ _ _ _ _ _ _ _ ?_;exact hK
  ·refine tp_offb w W0 A M V KB SB l c fl fc a fa t u k s fs 3 z1 z2 z3 K E C hC HO HT HN HV HVL HKY HKL HKO HSG HBY HFS HE (.inr rfl) hr HL _ _ _ _ _ _ _ _ _ _ _ _ _ _ _ _ _ _ _ _ _ _ _ _ _ _ _ _ _ _ _ _ _ _ _ _ _ _ _ _ _ _ _ _ _ _ _ _ _ _ _ _ _ _ _ _ _ _ _ _ _ _ _ _ _ _ _ _ _ _ _ _ _ _ _ _ _ _ _ _ _ _ _ _ _ _ _ _ _ _ _ _ _ _ _ _ _ _ _ _ _ _ _ _ _ _ _ _ _ _ _ _ _ _ _ _ _ _ _ _ _ _ _ _ _ _ _ _ _ _ _ _ _ _ _ _ _ _ _ _ _ _ _ _ _ _ _ _ _ _ _ _ _ _ _ _ _ _ _ _ _ _ _ _ _ _ _ _ _ _ _ _ _ _ _ _ _ _ _ _ _ _ _ _ _ _ _ _ _ _ _ _ _ _ _ _ _ _ _ _ _ _ _ _ _ _ _ _ _ _ _ _ _ _ _ _ _ _ _ _ _ _ _ _ _ _ _ _ _ _ _ _ _ _ _ _ _ _ _ _ _ _ _ _ _ _ _ _ _ _ _ _ _ _ _ _ _ _ _ _ _ _ _ _ _ _ _ _ _ _ _ _ _ _ _ _ _ _ _ _ _ _ _ _ _ _ _ _ _ _ _ _ _ _ _ _ _ _ _ _ _ _ _ ?_;exact hK
 ·by_cases hin:0≤z1∧z1 < (fl:Int)
  ·obtain ⟨n,rfl⟩:=Int.eq_ofNat_of_zero_le hin.1
   refine tp_adob w W0 A M V KB SB l c fl fc a fa t u k s fs n 4 z2 z3 K E C hC HO HT HN HV HVL HKY HKL HKO HSG HBY HFS HE (.inl rfl) (by omega) HL _ _ _ _ _ _ _ _ _ _ _ _ _ _ _ _ _ _ _ _ _ _ _ _ _ _ _ _ _ _ _ _ _ _ _ _ _ _ _ _ _ _ _ _ _ _ _ _ _ _ _ _ _ _ _ _ _ _ _ _ _ _ _ _ _ _ _ _ _ _ _ _ _ _ _ _ _ _ _ _ _ _ _ _ _ _ _ _ _ _ _ _ _ _ _ _ _ _ _ _ _ _ _ _ _ _ _ _ _ _ _ _ _ _ _ _ _ _ _ _ _ _ _ _ _ _ _ _ _ _ _ _ _ _ _ _ _ _ _ _ _ _ _ _ _ _ _ _ _ _ _ _ _ _ _ _ _ _ _ _ _ _ _ _ _ _ _ _ _ _ _ _ _ _ _ _ _ _ _ _ _ _ _ _ _ _ _ _ _ _ _ _ _ _ _ _ _ _ _ _ _ _ _ _ _ _ _ _ _ _ _ _ _ _ _ _ _ _ _ _ _ _ _ _ _ _ _ _ _ _ _ _ _ _ _ _ _ _ _ _ _ _ _ _ _ _ _ _ _ _ _ _ _ _ _ _ _ _ _ _ _ _ _ _ _ _ _ _ _ _ _ _ _ _ _ _ _ _ _ _ _ _ _ _ _ _ _ _ _ _ _ _ _ _ _ _ _ _ _ _ _ _ _ ?_;exact hK
  ·refine tp_adoa w W0 A M V KB SB l c fl fc a fa t u k s fs 4 z1 z2 z3 K E C hC HO HT HN HV HVL HKY HKL HKO HSG HBY HFS HE (.inl rfl) hin HL _ _ _ _ _ _ _ _ _ _ _ _ _ _ _ _ _ _ _ _ _ _ _ _ _ _ _ _ _ _ _ _ _ _ _ _ _ _ _ _ _ _ _ _ _ _ _ _ _ _ _ _ _ _ _ _ _ _ _ _ _ _ _ _ _ _ _ _ _ _ _ _ _ _ _ _ _ _ _ _ _ _ _ _ _ _ _ _ _ _ _ _ _ _ _ _ _ _ _ _ _ _ _ _ _ _ _ _ _ _ _ _ _ _ _ _ _ _ _ _ _ _ _ _ _ _ _ _ _ _ _ _ _ _ _ _ _ _ _ _ _ _ _ _ _ _ _ _ _ _ _ _ _ _ _ _ _ _ _ _ _ _ _ _ _ _ _ _ _ _ _ _ _ _ _ _ _ _ _ _ _ _ _ _ _ _ _ _ _ _ _ _ _ _ _ _ _ _ _ _ _ _ _ _ _ _ _ _ _ _ _ _ _ _ _ _ _ _ _ _ _ _ _ _ _ _ _ _ _ _ _ _ _ _ _ _ _ _ _ _ _ _ _ _ _ _ _ _ _ _ _ _ _ _ _ _ _ _ _ _ _ _ _ _ _ _ _ _ _ _ _ _ _ _ _ _ _ _ _ _ _ _ _ _ _ _ _ _ _ _ _ _ _ _ _ _ _ _ _ _ _ _ _ ?_;exact hK
 ·by_cases hin:0≤z1∧z1 < (fl:Int)
  ·obtain ⟨n,rfl⟩:=Int.eq_ofNat_of_zero_le hin.1
   refine tp_adob w W0 A M V KB SB l c fl fc a fa t u k s fs n 5 z2 z3 K E C hC HO HT HN HV HVL HKY HKL HKO HSG HBY HFS HE (.inr rfl) (by omega) HL _ _ _ _ _ _ _ _ _ _ _ _ _ _ _ _ _ _ _ _ _ _ _ _ _ _ _ _ _ _ _ _ _ _ _ _ _ _ _ _ _ _ _ _ _ _ _ _ _ _ _ _ _ _ _ _ _ _ _ _ _ _ _ _ _ _ _ _ _ _ _ _ _ _ _ _ _ _ _ _ _ _ _ _ _ _ _ _ _ _ _ _ _ _ _ _ _ _ _ _ _ _ _ _ _ _ _ _ _ _ _ _ _ _ _ _ _ _ _ _ _ _ _ _ _ _ _ _ _ _ _ _ _ _ _ _ _ _ _ _ _ _ _ _ _ _ _ _ _ _ _ _ _ _ _ _ _ _ _ _ _ _ _ _ _ _ _ _ _ _ _ _ _ _ _ _ _ _ _ _ _ _ _ _ _ _ _ _ _ _ _ _ _ _ _ _ _ _ _ _ _ _ _ _ _ _ _ _ _ _ _ _ _ _ _ _ _ _ _ _ _ _ _ _ _ _ _ _ _ _ _ _ _ _ _ _ _ _ _ _ _ _ _ _ _ _ _ _ _ _ _ _ _ _ _ _ _ _ _ _ _ _ _ _ _ _ _ _ _ _ _ _ _ _ _ _ _ _ _ _ _ _ _ _ _ _ _ _ _ _ _ _ _ _ _ _ _ _ _ _ _ _ _ ?_;exact hK
  ·refine tp_adoa w W0 A M V KB SB l c fl fc a fa t u k s fs 5 z1 z2 z3 K E C hC HO HT HN HV HVL HKY HKL HKO HSG HBY HFS HE (.inr rfl) hin HL _ _ _ _ _ _ _ _ _ _ _ _ _ _ _ _ _ _ _ _ _ _ _ _ _ _ _ _ _ _ _ _ _ _ _ _ _ _ _ _ _ _ _ _ _ _ _ _ _ _ _ _ _ _ _ _ _ _ _ _ _ _ _ _ _ _ _ _ _ _ _ _ _ _ _ _ _ _ _ _ _ _ _ _ _ _ _ _ _ _ _ _ _ _ _ _ _ _ _ _ _ _ _ _ _ _ _ _ _ _ _ _ _ _ _ _ _ _ _ _ _ _ _ _ _ _ _ _ _ _ _ _ _ _ _ _ _ _ _ _ _ _ _ _ _ _ _ _ _ _ _ _ _ _ _ _ _ _ _ _ _ _ _ _ _ _ _ _ _ _ _ _ _ _ _ _ _ _ _ _ _ _ _ _ _ _ _ _ _ _ _ _ _ _ _ _ _ _ _ _ _ _ _ _ _ _ _ _ _ _ _ _ _ _ _ _ _ _ _ _ _ _ _ _ _ _ _ _ _ _ _ _ _ _ _ _ _ _ _ _ _ _ _ _ _ _ _ _ _ _ _ _ _ _ _ _ _ _ _ _ _ _ _ _ _ _ _ _ _ _ _ _ _ _ _ _ _ _ _ _ _ _ _ _ _ _ _ _ _ _ _ _ _ _ _ _ _ _ _ _ _ _ _ ?_;exact hK
 ·refine tp_drp w W0 A M V KB SB l c fl fc a fa t u k s fs z1 z2 z3 K E C hC HO HT HN HV HVL HKY HKL HKO HSG HBY HFS HE  HL _ _ _ _ _ _ _ _ _ _ _ _ _ _ _ _ _ _ _ _ _ _ _ _ _ _ _ _ _ _ _ _ _ _ _ _ _ _ _ _ _ _ _ _ _ _ _ _ _ _ _ _ _ _ _ _ _ _ _ _ _ _ _ _ _ _ _ _ _ _ _ _ _ _ _ _ _ _ _ _ _ _ _ _ _ _ _ _ _ _ _ _ _ _ _ _ _ _ _ _ _ _ _ _ _ _ _ _ _ _ _ _ _ _ _ _ _ _ _ _ _ _ _ _ _ _ _ _ _ _ _ _ _ _ _ _ _ _ _ _ _ _ _ _ _ _ _ _ _ _ _ _ _ _ _ _ _ _ _ _ _ _ _ _ _ _ _ _ _ _ _ _ _ _ _ _ _ _ _ _ _ _ _ _ _ _ _ _ _ _ _ _ _ _ _ _ _ _ _ _ _ _ _ _ _ _ _ _ _ _ _ _ _ _ _ _ _ _ _ _ _ _ _ _ _ _ _ _ _ _ _ _ _ _ _ _ _ _ _ _ _ _ _ _ _ _ _ _ _ _ _ _ _ _ _ _ _ _ _ _ _ _ _ _ _ _ _ _ _ _ _ _ _ _ _ _ _ _ _ _ _ _ _ _ _ _ _ _ _ _ _ _ _ _ _ _ _ _ _ _ _ _ _ ?_;exact hK
 ·refine tp_tik w W0 A M V KB SB l c fl fc a fa t u k s fs z0 z1 z2 z3 K E C hC HO HT HN HV HVL HKY HKL HKO HSG HBY HFS HE HL e0 e1 e2 e3 e4 e5 e6 _ _ _ _ _ _ _ _ _ _ _ _ _ _ _ _ _ _ _ _ _ _ _ _ _ _ _ _ _ _ _ _ _ _ _ _ _ _ _ _ _ _ _ _ _ _ _ _ _ _ _ _ _ _ _ _ _ _ _ _ _ _ _ _ _ _ _ _ _ _ _ _ _ _ _ _ _ _ _ _ _ _ _ _ _ _ _ _ _ _ _ _ _ _ _ _ _ _ _ _ _ _ _ _ _ _ _ _ _ _ _ _ _ _ _ _ _ _ _ _ _ _ _ _ _ _ _ _ _ _ _ _ _ _ _ _ _ _ _ _ _ _ _ _ _ _ _ _ _ _ _ _ _ _ _ _ _ _ _ _ _ _ _ _ _ _ _ _ _ _ _ _ _ _ _ _ _ _ _ _ _ _ _ _ _ _ _ _ _ _ _ _ _ _ _ _ _ _ _ _ _ _ _ _ _ _ _ _ _ _ _ _ _ _ _ _ _ _ _ _ _ _ _ _ _ _ _ _ _ _ _ _ _ _ _ _ _ _ _ _ _ _ _ _ _ _ _ _ _ _ _ _ _ _ _ _ _ _ _ _ _ _ _ _ _ _ _ _ _ _ _ _ _ _ _ _ _ _ _ _ _ _ _ _ _ _ _ _ _ _ _ _ _ _ _ _ _ _ _ _ _ _ _ ?_;exact hK
end Go.Proofs.YtkhheooofcpfdaaGreatDoor
namespace Go.Proofs.YtkhheooofcpfdaaGreatDoor
open Go.RowKit Go.Maps
set_option linter.unusedVariables false
theorem i64_of {z:Int} (h:(Lit.int .i64 z).wf=true) : -9223372036854775808≤z∧z≤9223372036854775807:=by
 simp only [Lit.wf,Bool.and_eq_true,decide_eq_true_eq] at h
 exact h
set_option maxRecDepth 100000 in
set_option maxHeartbeats 32000000 in
theorem tp_round (w wr:World) (A M g of N cv i fl fc ll lc:Nat) (an fa la:Option Addr) (cn:Nat) (zs:List Int) (fs:List Fl) (ss:List (Sg × Value)) (K:Act→World→Prop) (E:Exit→Act→World→Prop) (C:Code) (hC:C=tpBlk 1)
  (HO:Hid (TpO w A M)) (HS:Hid (TpS w A M wr)) (HE:Hid (∀ W,Below w.heap.size w W→ErrLaid W)) (HL:Hid (∀ W,Below w.heap.size w W→Lives W)) (HN:Hid (Numz w (.slice an zs.length cn) zs)) (HC0:Hid (∀ X',Below w.heap.size w X'→X'.cell? ⟨g,of+i,none⟩=some (.slice an zs.length cn))) (hi1:(i:Int) < (N:Int)) (hgc:N≤cv) (hgm:cv≤maxLen)
  (HFS:Hid (Fls w (.slice fa fl fc) fs)) (HFL:Hid (fl=fs.length)) (HSS:Hid (Sgs w (.slice la ll lc) ss)) (HLL:Hid (ll=ss.length))
  (v0 v4 v5 v6 v7 v8 v10 v11 v12 v15 v16 v17 v18 v19 v20 v21 v22 v23 v24 v25 v26 v27 v28 v29 v30 v31 v32 v33 v34 v35 v36 v37 v38 v39 v40 v41 v42 v43 v44 v45 v46 v47 v48 v49 v50 v51 v52 v53 v54 v55 v56 v57 v58 v59 v60 v61 v62 v63 v64 v65 v66 v67 v68 v69 v70 v71 v72 v73 v74 v75 v76 v77 v78 v79 v80 v81 v82 v83 v84 v85 v86 v87 v88 v89 v90 v91 v92 v93 v94 v95 v96 v97 v98 v99 v2s v2t v2u v2v v2w v2x v2y v2z v108 v109 v110 v111 v112 v113 v114 v115 v116 v117 v3a v3b v3c v3d v3e v3f v3g v3h v3i v3j v3k v3l v3m v3n v3o v3p v3q v3r v3s v3t v3u v3v v3w v3x v3y v3z v144 v145 v146 v147 v148 v149 v150 v151 v152 v153 v4a v4b v4c v4d v4e v4f v4g v4h v4i v4j v4k v4l v4m v4n v4o v4p v4q v4r v4s v4t v4u v4v v4w v4x v4y v4z v180 v181 v182 v183 v184 v185 v186 v187 v188 v189 v5a v5b v5c v5d v5e v5f v5g v5h v5i v5j v5k v5l v5m v5n v5o v5p v5q v5r v5s v5t v5u v5v v5w v5x v5y v5z v216 v217 v218 v219 v220 v221 v222 v223 v224 v225 v6a v6b v6c v6d v6e v6f v6g v6h v6i v6j v6k v6l v6m v6n v6o v6p v6q v6r v6s v6t v6u v6v v6w v6x v6y v6z v252 v253 v254 v255 v256 v257 v258 v259 v260 v261 v7a v7b v7c v7d v7e v7f v7g v7h v7i v7j v7k v7l v7m v7n v7o v7p v7q v7r v7s v7t v7u v7v v7w v7x v7y v7z v288 v289 v290 v291 v292 v293 v294 v295 v296 v297 v8a v8b v8c v8d v8e v8f v8g v8h v8i v8j v8k v8l v8m:Value)
  (hK:∀ (W9:World) (u12 u15 u16 u17 u18 u19 u20 u21 u22 u23 u24 u25 u26 u27 u28 u29 u30 u31 u32 u33 u34 u35 u36 u37 u38 u39 u40 u41 u42 u77 u78 u79 u80 u81 u82 u83 u84 u85 u86 u87 u88 u89 u90 u91 u92 u93 u94 u95 u96 u97 u98 u99 u2s u2t u2u u2v u2w u2x u2y u2z u108 u109 u110 u111 u112 u113 u114 u115 u116 u117 u3a u3b u3c u3d u3e u3f u3g u3h u3i u3j u3k u3l u3m u3n u3o u3p u3q u3r u3s u3t u3u u3v u3w u3x u3y u3z u144 u145 u146 u43 u44 u45 u46 u47 u48 u49 u4a u4b u4c u4d u4e u4f u4g u4h u4i u4j u4k u4l u4m u4n u4o u4p u4q u4r u4s u4t u4u u4v u4w u4x u4y u4z u50 u51 u52 u53 u54 u55 u56 u57 u58 u59 u5a u5b u5c u5d u5e u5f u5g u5h u5i u5j u5k u5l u5m u5n u5o u5p u5q u5r u5s u5t u5u u5v u5w u5x u5y u5z u60 u61 u62 u63 u64 u65 u66 u223 u224 u225 u6a u6b u6c u6d u6e u6f u6g u6h u6i u6j u6k u6l u6m u6n u6o u6p u6q u6r u6s u6t u6u u6v u6w u6x u6y u6z u252 u253 u254 u255 u256 u257 u258 u259 u260 u261 u7a u7b u7c u7d u7e u7f u7g u7h u7i u7j u7k u7l u7m u7n u7o u7p u7q u7r u7s u7t u7u u7v u7w u7x u7y u7z u288 u289 u290 u291 u292 u293 u294 u295 u296 u297 u8a u8b u8c u8d u8e u8f u8g u8h u8i u8j u8k u8l u8m:Value),TpS w A M W9→K { tmps:=#[v0,.slice (some ⟨g,of,none⟩) N cv,.slice fa fl fc,.slice la ll lc,v4,v5,v6,v7,v8,.pointer (some ⟨A,0,none⟩),v10,v11,u12,.pointer (some ⟨M,0,none⟩),.int .i64 (i:Int),u15,u16,u17,u18,u19,u20,u21,u22,u23,u24,u25,u26,u27,u28,u29,u30,u31,u32,u33,u34,u35,u36,u37,u38,u39,u40,u41,u42,v43,v44,v45,v46,v47,v48,v49,v50,v51,v52,v53,v54,v55,v56,v57,v58,v59,v60,v61,v62,v63,v64,v65,v66,v67,v68,v69,v70,v71,v72,v73,v74,v75,v76,u77,u78,u79,u80,u81,u82,u83,u84,u85,u86,u87,u88,u89,u90,u91,u92,u93,u94,u95,u96,u97,u98,u99,u2s,u2t,u2u,u2v,u2w,u2x,u2y,u2z,u108,u109,u110,u111,u112,u113,u114,u115,u116,u117,u3a,u3b,u3c,u3d,u3e,u3f,u3g,u3h,u3i,u3j,u3k,u3l,u3m,u3n,u3o,u3p,u3q,u3r,u3s,u3t,u3u,u3v,u3w,u3x,u3y,u3z,u144,u145,u146,u43,u44,u45,u46,u47,u48,u49,u4a,u4b,u4c,u4d,u4e,u4f,u4g,u4h,u4i,u4j,u4k,u4l,u4m,u4n,u4o,u4p,u4q,u4r,u4s,u4t,u4u,u4v,u4w,u4x,u4y,u4z,u50,u51,u52,u53,u54,u55,u56,u57,u58,u59,u5a,u5b,u5c,u5d,u5e,u5f,u5g,u5h,u5i,u5j,u5k,u5l,u5m,u5n,u5o,u5p,u5q,u5r,u5s,u5t,u5u,u5v,u5w,u5x,u5y,u5z,u60,u61,u62,u63,u64,u65,u66,u223,u224,u225,u6a,u6b,u6c,u6d,u6e,u6f,u6g,u6h,u6i,u6j,u6k,u6l,u6m,u6n,u6o,u6p,u6q,u6r,u6s,u6t,u6u,u6v,u6w,u6x,u6y,u6z,u252,u253,u254,u255,u256,u257,u258,u259,u260,u261,u7a,u7b,u7c,u7d,u7e,u7f,u7g,u7h,u7i,u7j,u7k,u7l,u7m,u7n,u7o,u7p,u7q,u7r,u7s,u7t,u7u,u7v,u7w,u7x,u7y,u7z,u288,u289,u290,u291,u292,u293,u294,u295,u296,u297,u8a,u8b,u8c,u8d,u8e,u8f,u8g,u8h,u8i,u8j,u8k,u8l,u8m],defers:=[] } W9) :
  Code.wp Tryz.prog C (Exit.then K E) { tmps:=#[v0,.slice (some ⟨g,of,none⟩) N cv,.slice fa fl fc,.slice la ll lc,v4,v5,v6,v7,v8,.pointer (some ⟨A,0,none⟩),v10,v11,v12,.pointer (some ⟨M,0,none⟩),.int .i64 (i:Int),v15,v16,v17,v18,v19,v20,v21,v22,v23,v24,v25,v26,v27,v28,v29,v30,v31,v32,v33,v34,v35,v36,v37,v38,v39,v40,v41,v42,v43,v44,v45,v46,v47,v48,v49,v50,v51,v52,v53,v54,v55,v56,v57,v58,v59,v60,v61,v62,v63,v64,v65,v66,v67,v68,v69,v70,v71,v72,v73,v74,v75,v76,v77,v78,v79,v80,v81,v82,v83,v84,v85,v86,v87,v88,v89,v90,v91,v92,v93,v94,v95,v96,v97,v98,v99,v2s,v2t,v2u,v2v,v2w,v2x,v2y,v2z,v108,v109,v110,v111,v112,v113,v114,v115,v116,v117,v3a,v3b,v3c,v3d,v3e,v3f,v3g,v3h,v3i,v3j,v3k,v3l,v3m,v3n,v3o,v3p,v3q,v3r,v3s,v3t,v3u,v3v,v3w,v3x,v3y,v3z,v144,v145,v146,v147,v148,v149,v150,v151,v152,v153,v4a,v4b,v4c,v4d,v4e,v4f,v4g,v4h,v4i,v4j,v4k,v4l,v4m,v4n,v4o,v4p,v4q,v4r,v4s,v4t,v4u,v4v,v4w,v4x,v4y,v4z,v180,v181,v182,v183,v184,v185,v186,v187,v188,v189,v5a,v5b,v5c,v5d,v5e,v5f,v5g,v5h,v5i,v5j,v5k,v5l,v5m,v5n,v5o,v5p,v5q,v5r,v5s,v5t,v5u,v5v,v5w,v5x,v5y,v5z,v216,v217,v218,v219,v220,v221,v222,v223,v224,v225,v6a,v6b,v6c,v6d,v6e,v6f,v6g,v6h,v6i,v6j,v6k,v6l,v6m,v6n,v6o,v6p,v6q,v6r,v6s,v6t,v6u,v6v,v6w,v6x,v6y,v6z,v252,v253,v254,v255,v256,v257,v258,v259,v260,v261,v7a,v7b,v7c,v7d,v7e,v7f,v7g,v7h,v7i,v7j,v7k,v7l,v7m,v7n,v7o,v7p,v7q,v7r,v7s,v7t,v7u,v7v,v7w,v7x,v7y,v7z,v288,v289,v290,v291,v292,v293,v294,v295,v296,v297,v8a,v8b,v8c,v8d,v8e,v8f,v8g,v8h,v8i,v8j,v8k,v8l,v8m],defers:=[] } wr:=by
 subst hC
 conv =>
  arg 2
  unfold tpBlk
  unfold Tryz.f3
  simp only [Option.getD_some,blkAt]
 conv =>
  arg 4
  zeta
 try simp (maxSteps:=10000000) only at hK
 have HK:=hidE hK
 clear hK
 go_upto_region 13 with fail
 have HSV:Hid (TpV w A M wr.heap.size (wr.alloc (.cells #[.int .i64 0,.int .i64 0,.int .i64 0,.int .i64 0] 34))):=by
  obtain ⟨t,u,h1,h2⟩:=HS.out
  exact ⟨⟨t,u,h1.below ((Below.refl _ _).alloc (Nat.le_refl _) _),h2⟩,⟨0,0,0,0,heap_alloc_new _ _,by decide,by decide,by decide,by decide⟩,h1.bel.size⟩
 obtain ⟨V,hVe⟩:∃ V,wr.heap.size=V:=⟨_,rfl⟩
 obtain ⟨W1,hW1⟩:∃ W1,wr.alloc (.cells #[.int .i64 0,.int .i64 0,.int .i64 0,.int .i64 0] 34)=W1:=⟨_,rfl⟩
 rw [hVe,hW1] at HSV
 rw [hVe,hW1]
 clear hVe hW1 HS
 go_upto_block 2 with fail
 refine tp_row w W1 A M V g of N cv i an cn zs _ _ _ (by kernel_rfl) HSV HN HC0 hi1 hgc hgm _ _ _ _ _ _ _ _ _ _ _ _ _ _ _ _ _ _ _ _ _ _ _ _ _ _ _ _ _ _ _ _ _ _ _ _ _ _ _ _ _ _ _ _ _ _ _ _ _ _ _ _ _ _ _ _ _ _ _ _ _ _ _ _ _ _ _ _ _ _ _ _ _ _ _ _ _ _ _ _ _ _ _ _ _ _ _ _ _ _ _ _ _ _ _ _ _ _ _ _ _ _ _ _ _ _ _ _ _ _ _ _ _ _ _ _ _ _ _ _ _ _ _ _ _ _ _ _ _ _ _ _ _ _ _ _ _ _ _ _ _ _ _ _ _ _ _ _ _ _ _ _ _ _ _ _ _ _ _ _ _ _ _ _ _ _ _ _ _ _ _ _ _ _ _ _ _ _ _ _ _ _ _ _ _ _ _ _ _ _ _ _ _ _ _ _ _ _ _ _ _ _ _ _ _ _ _ _ _ _ _ _ _ _ _ _ _ _ _ _ _ _ _ _ _ _ _ _ _ _ _ _ _ _ _ _ _ _ _ _ _ _ _ _ _ _ _ _ _ _ _ _ _ _ _ _ _ _ _ _ _ _ _ _ _ _ _ _ _ _ _ _ _ _ _ _ _ _ _ _ _ _ _ _ _ _ _ _ _ _ _ _ _ _ _ _ _ _ _ _ _ _ _ _ _ _ _ ?_
 intro W2
 iterate 23 intro _
 intro h2
 conv =>
  arg 1
  zeta
 try go_step
 obtain ⟨⟨t,u,hT,hNN⟩,⟨z0,z1,z2,z3,hvr,w0,w1,w2,w3⟩,hVL⟩:=h2
 have HNN:=hidE hNN
 have HT:=hidE hT
 have HVR:=hidE hvr
 have HVL:=hidE hVL
 obtain ⟨k,hko,hkc⟩:=lkeyOf_any z1 (i64_of w1)
 have q1:=hkc W2
 unfold keyV at q1
 have HKO:=hidE hko
 obtain ⟨⟨_,c1,_,_⟩,_⟩:=v4_cells hvr
 clear HSV HC0 HN hT hNN hvr hVL hko hkc w0 w1 w2 w3
 go_upto_region 18 with (go_at_call 6;go_must ((with_reducible refine q1.mono ?_);rintro e' W3 ⟨rfl,b3⟩))
 have b4:Below W2.heap.size W2 (W3.alloc (.cells #[.int .i64 k.kind,.int .i64 k.src,.int .i64 k.frm,.int .i64 k.dst,.int .i64 k.too] 37)):=b3.alloc b3.size _
 have p4:=KyAt.new W3 k
 have hKL:w.heap.size≤W3.heap.size:=Nat.le_trans HT.out.bel.size b3.size
 obtain ⟨KB,hKB⟩:∃ KB,W3.heap.size=KB:=⟨_,rfl⟩
 obtain ⟨W4,hW4⟩:∃ W4,W3.alloc (.cells #[.int .i64 k.kind,.int .i64 k.src,.int .i64 k.frm,.int .i64 k.dst,.int .i64 k.too] 37)=W4:=⟨_,rfl⟩
 try rw [hW4]
 try rw [hKB]
 rw [hW4] at b4 p4
 rw [hKB] at p4 hKL
 have HKL:=hidE hKL
 have T4:=HT.out.below b4
 have b5:Below W4.heap.size W4 (W4.alloc (.cells #[.int .i64 0,.int .i64 0,.int .i64 0,.int .i64 0,.int .i64 0,.int .i64 0,.slice none 0 0] 41)):=(Below.refl _ _).alloc (Nat.le_refl _) _
 have T5:=T4.below b5
 have HB5:=hidE T5.bel
 have HT5:=hidE T5
 have HV5:=hidE ((Kp.below b5).v4 ((Kp.below b4).v4 HVR.out))
 have HKY5:=hidE ((Kp.below b5).ky p4)
 have HSG5:=hidE (SgAt.zero W4)
 have HSL:Hid (w.heap.size≤W4.heap.size):=T4.bel.size
 clear hW4 hKB q1 b3 b4 p4 T4 b5 T5 c1 hKL HT HVR
 iterate 8 go_step
 refine tp_seg w _ V _ _ ll lc la k ss z0 z1 z2 z3 _ _ _ (by kernel_rfl) HB5 HV5 HKY5 HSG5 HSS HLL.out _ _ _ _ _ _ _ _ _ _ _ _ _ _ _ _ _ _ _ _ _ _ _ _ _ _ _ _ _ _ _ _ _ _ _ _ _ _ _ _ _ _ _ _ _ _ _ _ _ _ _ _ _ _ _ _ _ _ _ _ _ _ _ _ _ _ _ _ _ _ _ _ _ _ _ _ _ _ _ _ _ _ _ _ _ _ _ _ _ _ _ _ _ _ _ _ _ _ _ _ _ _ _ _ _ _ _ _ _ _ _ _ _ _ _ _ _ _ _ _ _ _ _ _ _ _ _ _ _ _ _ _ _ _ _ _ _ _ _ _ _ _ _ _ _ _ _ _ _ _ _ _ _ _ _ _ _ _ _ _ _ _ _ _ _ _ _ _ _ _ _ _ _ _ _ _ _ _ _ _ _ _ _ _ _ _ _ _ _ _ _ _ _ _ _ _ _ _ _ _ _ _ _ _ _ _ _ _ _ _ _ _ _ _ _ _ _ _ _ _ _ _ _ _ _ _ _ _ _ _ _ _ _ _ _ _ _ _ _ _ _ _ _ _ _ _ _ _ _ _ _ _ _ _ _ _ _ _ _ _ _ _ _ _ _ _ _ _ _ _ _ _ _ _ _ _ _ _ _ _ _ _ _ _ _ _ _ _ _ _ _ _ _ _ _ _ _ _ _ _ _ _ _ _ _ _ _ ?_
 intro W6
 iterate 25 intro _
 intro hs6 o6
 conv =>
  arg 1
  zeta
 try go_step
 obtain ⟨s,a,l,c,hs,hby⟩:=hs6
 have HT6:=hidE (HT5.out.only o6 HSG5.out (by decide) (by decide) (by decide) HSL.out)
 have HV6:Hid (V4At W6 V z0 z1 z2 z3):=Kp.only o6 HV5.out (cells_ne HV5.out HSG5.out (by decide))
 have HKY6:Hid (KyAt W6 KB k):=Kp.only o6 HKY5.out (cells_ne HKY5.out HSG5.out (by decide))
 have HSG6:=hidE hs
 have HBY:=hidE hby
 obtain ⟨SB,hSB⟩:∃ SB,W4.heap.size=SB:=⟨_,rfl⟩
 rw [hSB] at HSG6
 rw [hSB]
 obtain ⟨⟨c0,_,_,c3⟩,_⟩:=v4_cells HV6.out
 clear hs hby o6 hSB HT5 HV5 HKY5 HSG5 HSL HB5
 go_upto_block 4 with fail
 clear c0 c3
 refine tp_sw w W6 A M V KB SB l c fl fc a fa t u k s fs z0 z1 z2 z3 _ _ _ (by kernel_rfl) HO HT6 HNN HV6 HVL HKY6 HKL HKO HSG6 HBY HFS HE HL HFL.out _ _ _ _ _ _ _ _ _ _ _ _ _ _ _ _ _ _ _ _ _ _ _ _ _ _ _ _ _ _ _ _ _ _ _ _ _ _ _ _ _ _ _ _ _ _ _ _ _ _ _ _ _ _ _ _ _ _ _ _ _ _ _ _ _ _ _ _ _ _ _ _ _ _ _ _ _ _ _ _ _ _ _ _ _ _ _ _ _ _ _ _ _ _ _ _ _ _ _ _ _ _ _ _ _ _ _ _ _ _ _ _ _ _ _ _ _ _ _ _ _ _ _ _ _ _ _ _ _ _ _ _ _ _ _ _ _ _ _ _ _ _ _ _ _ _ _ _ _ _ _ _ _ _ _ _ _ _ _ _ _ _ _ _ _ _ _ _ _ _ _ _ _ _ _ _ _ _ _ _ _ _ _ _ _ _ _ _ _ _ _ _ _ _ _ _ _ _ _ _ _ _ _ _ _ _ _ _ _ _ _ _ _ _ _ _ _ _ _ _ _ _ _ _ _ _ _ _ _ _ _ _ _ _ _ _ _ _ _ _ _ _ _ _ _ _ _ _ _ _ _ _ _ _ _ _ _ _ _ _ _ _ _ _ _ _ _ _ _ _ _ _ _ _ _ _ _ _ _ _ _ _ _ _ _ _ _ _ _ _ _ _ _ _ _ _ _ _ _ _ _ _ _ ?_
 intro W7
 iterate 152 intro _
 intro hS7 hk7
 conv =>
  arg 1
  zeta
 try go_step
 obtain ⟨t',u',hT7,hN7⟩:=hS7
 obtain ⟨k',hko7,hky7⟩:=hk7
 have HT7:=hidE hT7
 have HN7:=hidE hN7
 have HKY7:=hidE hky7
 have HKO7:=hidE hko7
 clear hT7 hN7 hky7 hko7 HT6 HV6 HKY6 HSG6 HBY HKO HNN
 first
  | refine tp_tail w W7 A M KB t' u' k'  _ _ (by kernel_rfl) HT7 HN7 HKY7 HKO7 _ _ _ _ _ _ _ _ _ _ _ _ _ _ _ _ _ _ _ _ _ _ _ _ _ _ _ _ _ _ _ _ _ _ _ _ _ _ _ _ _ _ _ _ _ _ _ _ _ _ _ _ _ _ _ _ _ _ _ _ _ _ _ _ _ _ _ _ _ _ _ _ _ _ _ _ _ _ _ _ _ _ _ _ _ _ _ _ _ _ _ _ _ _ _ _ _ _ _ _ _ _ _ _ _ _ _ _ _ _ _ _ _ _ _ _ _ _ _ _ _ _ _ _ _ _ _ _ _ _ _ _ _ _ _ _ _ _ _ _ _ _ _ _ _ _ _ _ _ _ _ _ _ _ _ _ _ _ _ _ _ _ _ _ _ _ _ _ _ _ _ _ _ _ _ _ _ _ _ _ _ _ _ _ _ _ _ _ _ _ _ _ _ _ _ _ _ _ _ _ _ _ _ _ _ _ _ _ _ _ _ _ _ _ _ _ _ _ _ _ _ _ _ _ _ _ _ _ _ _ _ _ _ _ _ _ _ _ _ _ _ _ _ _ _ _ _ _ _ _ _ _ _ _ _ _ _ _ _ _ _ _ _ _ _ _ _ _ _ _ _ _ _ _ _ _ _ _ _ _ _ _ _ _ _ _ _ _ _ _ _ _ _ _ _ _ _ _ _ _ _ _ _ _ _ _ _ ?_
  | (go_step;refine tp_tail w W7 A M KB t' u' k'  _ _ (by kernel_rfl) HT7 HN7 HKY7 HKO7 _ _ _ _ _ _ _ _ _ _ _ _ _ _ _ _ _ _ _ _ _ _ _ _ _ _ _ _ _ _ _ _ _ _ _ _ _ _ _ _ _ _ _ _ _ _ _ _ _ _ _ _ _ _ _ _ _ _ _ _ _ _ _ _ _ _ _ _ _ _ _ _ _ _ _ _ _ _ _ _ _ _ _ _ _ _ _ _ _ _ _ _ _ _ _ _ _ _ _ _ _ _ _ _ _ _ _ _ _ _ _ _ _ _ _ _ _ _ _ _ _ _ _ _ _ _ _ _ _ _ _ _ _ _ _ _ _ _ _ _ _ _ _ _ _ _ _ _ _ _ _ _ _ _ _ _ _ _ _ _ _ _ _ _ _ _ _ _ _ _ _ _ _ _ _ _ _ _ _ _ _ _ _ _ _ _ _ _ _ _ _ _ _ _ _ _ _ _ _ _ _ _ _ _ _ _ _ _ _ _ _ _ _ _ _ _ _ _ _ _ _ _ _ _ _ _ _ _ _ _ _ _ _ _ _ _ _ _ _ _ _ _ _ _ _ _ _ _ _ _ _ _ _ _ _ _ _ _ _ _ _ _ _ _ _ _ _ _ _ _ _ _ _ _ _ _ _ _ _ _ _ _ _ _ _ _ _ _ _ _ _ _ _ _ _ _ _ _ _ _ _ _ _ _ _ _ _ ?_)
  | (go_step;go_step;refine tp_tail w W7 A M KB t' u' k'  _ _ (by kernel_rfl) HT7 HN7 HKY7 HKO7 _ _ _ _ _ _ _ _ _ _ _ _ _ _ _ _ _ _ _ _ _ _ _ _ _ _ _ _ _ _ _ _ _ _ _ _ _ _ _ _ _ _ _ _ _ _ _ _ _ _ _ _ _ _ _ _ _ _ _ _ _ _ _ _ _ _ _ _ _ _ _ _ _ _ _ _ _ _ _ _ _ _ _ _ _ _ _ _ _ _ _ _ _ _ _ _ _ _ _ _ _ _ _ _ _ _ _ _ _ _ _ _ _ _ _ _ _ _ _ _ _ _ _ _ _ _ _ _ _ _ _ _ _ _ _ _ _ _ _ _ _ _ _ _ _ _ _ _ _ _ _ _ _ _ _ _ _ _ _ _ _ _ _ _ _ _ _ _ _ _ _ _ _ _ _ _ _ _ _ _ _ _ _ _ _ _ _ _ _ _ _ _ _ _ _ _ _ _ _ _ _ _ _ _ _ _ _ _ _ _ _ _ _ _ _ _ _ _ _ _ _ _ _ _ _ _ _ _ _ _ _ _ _ _ _ _ _ _ _ _ _ _ _ _ _ _ _ _ _ _ _ _ _ _ _ _ _ _ _ _ _ _ _ _ _ _ _ _ _ _ _ _ _ _ _ _ _ _ _ _ _ _ _ _ _ _ _ _ _ _ _ _ _ _ _ _ _ _ _ _ _ _ _ _ _ _ _ ?_)
 intro W8
 iterate 51 intro _
 intro h8
 have H8:=hidE h8
 clear h8
 go_wp2_with fail
 exact HK.out _ _ _ _ _ _ _ _ _ _ _ _ _ _ _ _ _ _ _ _ _ _ _ _ _ _ _ _ _ _ _ _ _ _ _ _ _ _ _ _ _ _ _ _ _ _ _ _ _ _ _ _ _ _ _ _ _ _ _ _ _ _ _ _ _ _ _ _ _ _ _ _ _ _ _ _ _ _ _ _ _ _ _ _ _ _ _ _ _ _ _ _ _ _ _ _ _ _ _ _ _ _ _ _ _ _ _ _ _ _ _ _ _ _ _ _ _ _ _ _ _ _ _ _ _ _ _ _ _ _ _ _ _ _ _ _ _ _ _ _ _ _ _ _ _ _ _ _ _ _ _ _ _ _ _ _ _ _ _ _ _ _ _ _ _ _ _ _ _ _ _ _ _ _ _ _ _ _ _ _ _ _ _ _ _ _ _ _ _ _ _ _ _ _ _ _ _ _ _ _ _ _ _ _ _ _ _ _ _ _ _ _ _ _ _ _ _ _ _ _ _ _ _ _ _ _ _ _ _ _ _ _ _ _ _ _ _ _ _ _ _ _ _ _ _ _ _ _ _ _ _ _ _ _ _ _ _ _ _ _ _ _ _ _ H8.out
end Go.Proofs.YtkhheooofcpfdaaGreatDoor
namespace Go.Proofs.YtkhheooofcpfdaaGreatDoor
open Go.RowKit Go.Maps
set_option linter.unusedVariables false
set_option maxRecDepth 100000 in
set_option maxHeartbeats 32000000 in
theorem tp_loop (w W8:World) (A M cv fl fc ll lc:Nat) (av fa la:Option Addr) (l:List (List Int × Value)) (fs:List Fl) (ss:List (Sg × Value)) (K:Act→World→Prop) (E:Exit→Act→World→Prop) (C:Code) (hC:C=tpBlk 0)
  (HO:Hid (TpO w A M)) (HS0:Hid (TpS w A M W8)) (HE:Hid (∀ W,Below w.heap.size w W→ErrLaid W)) (HL:Hid (∀ W,Below w.heap.size w W→Lives W)) (HV:Hid (Rowz w (.slice av l.length cv) l))
  (HFS:Hid (Fls w (.slice fa fl fc) fs)) (HFL:Hid (fl=fs.length)) (HSS:Hid (Sgs w (.slice la ll lc) ss)) (HLL:Hid (ll=ss.length))
  (v0 v4 v5 v6 v7 v8 v10 v11 v12 v15 v16 v17 v18 v19 v20 v21 v22 v23 v24 v25 v26 v27 v28 v29 v30 v31 v32 v33 v34 v35 v36 v37 v38 v39 v40 v41 v42 v43 v44 v45 v46 v47 v48 v49 v50 v51 v52 v53 v54 v55 v56 v57 v58 v59 v60 v61 v62 v63 v64 v65 v66 v67 v68 v69 v70 v71 v72 v73 v74 v75 v76 v77 v78 v79 v80 v81 v82 v83 v84 v85 v86 v87 v88 v89 v90 v91 v92 v93 v94 v95 v96 v97 v98 v99 v2s v2t v2u v2v v2w v2x v2y v2z v108 v109 v110 v111 v112 v113 v114 v115 v116 v117 v3a v3b v3c v3d v3e v3f v3g v3h v3i v3j v3k v3l v3m v3n v3o v3p v3q v3r v3s v3t v3u v3v v3w v3x v3y v3z v144 v145 v146 v147 v148 v149 v150 v151 v152 v153 v4a v4b v4c v4d v4e v4f v4g v4h v4i v4j v4k v4l v4m v4n v4o v4p v4q v4r v4s v4t v4u v4v v4w v4x v4y v4z v180 v181 v182 v183 v184 v185 v186 v187 v188 v189 v5a v5b v5c v5d v5e v5f v5g v5h v5i v5j v5k v5l v5m v5n v5o v5p v5q v5r v5s v5t v5u v5v v5w v5x v5y v5z v216 v217 v218 v219 v220 v221 v222 v223 v224 v225 v6a v6b v6c v6d v6e v6f v6g v6h v6i v6j v6k v6l v6m v6n v6o v6p v6q v6r v6s v6t v6u v6v v6w v6x v6y v6z v252 v253 v254 v255 v256 v257 v258 v259 v260 v261 v7a v7b v7c v7d v7e v7f v7g v7h v7i v7j v7k v7l v7m v7n v7o v7p v7q v7r v7s v7t v7u v7v v7w v7x v7y v7z v288 v289 v290 v291 v292 v293 v294 v295 v296 v297 v8a v8b v8c v8d v8e v8f v8g v8h v8i v8j v8k v8l v8m:Value)
  (hK:∀ (W9:World) (u8 u12 u14 u15 u16 u17 u18 u19 u20 u21 u22 u23 u24 u25 u26 u27 u28 u29 u30 u31 u32 u33 u34 u35 u36 u37 u38 u39 u40 u41 u42 u67 u68 u69 u70 u71 u72 u73 u74 u75 u76 u77 u78 u79 u80 u81 u82 u83 u84 u85 u86 u87 u88 u89 u90 u91 u92 u93 u94 u95 u96 u97 u98 u99 u2s u2t u2u u2v u2w u2x u2y u2z u108 u109 u110 u111 u112 u113 u114 u115 u116 u117 u3a u3b u3c u3d u3e u3f u3g u3h u3i u3j u3k u3l u3m u3n u3o u3p u3q u3r u3s u3t u3u u3v u3w u3x u3y u3z u144 u145 u146 u43 u44 u45 u46 u47 u48 u49 u4a u4b u4c u4d u4e u4f u4g u4h u4i u4j u4k u4l u4m u4n u4o u4p u4q u4r u4s u4t u4u u4v u4w u4x u4y u4z u50 u51 u52 u53 u54 u55 u56 u57 u58 u59 u5a u5b u5c u5d u5e u5f u5g u5h u5i u5j u5k u5l u5m u5n u5o u5p u5q u5r u5s u5t u5u u5v u5w u5x u5y u5z u60 u61 u62 u63 u64 u65 u66 u223 u224 u225 u6a u6b u6c u6d u6e u6f u6g u6h u6i u6j u6k u6l u6m u6n u6o u6p u6q u6r u6s u6t u6u u6v u6w u6x u6y u6z u252 u253 u254 u255 u256 u257 u258 u259 u260 u261 u7a u7b u7c u7d u7e u7f u7g u7h u7i u7j u7k u7l u7m u7n u7o u7p u7q u7r u7s u7t u7u u7v u7w u7x u7y u7z u288 u289 u290 u291 u292 u293 u294 u295 u296 u297 u8a u8b u8c u8d u8e u8f u8g u8h u8i u8j u8k u8l u8m:Value),Below w.heap.size w W9→K { tmps:=#[v0,.slice av l.length cv,.slice fa fl fc,.slice la ll lc,v4,v5,v6,v7,u8,.pointer (some ⟨A,0,none⟩),v10,v11,u12,.pointer (some ⟨M,0,none⟩),u14,u15,u16,u17,u18,u19,u20,u21,u22,u23,u24,u25,u26,u27,u28,u29,u30,u31,u32,u33,u34,u35,u36,u37,u38,u39,u40,u41,u42,v43,v44,v45,v46,v47,v48,v49,v50,v51,v52,v53,v54,v55,v56,v57,v58,v59,v60,v61,v62,v63,v64,v65,v66,u67,u68,u69,u70,u71,u72,u73,u74,u75,u76,u77,u78,u79,u80,u81,u82,u83,u84,u85,u86,u87,u88,u89,u90,u91,u92,u93,u94,u95,u96,u97,u98,u99,u2s,u2t,u2u,u2v,u2w,u2x,u2y,u2z,u108,u109,u110,u111,u112,u113,u114,u115,u116,u117,u3a,u3b,u3c,u3d,u3e,u3f,u3g,u3h,u3i,u3j,u3k,u3l,u3m,u3n,u3o,u3p,u3q,u3r,u3s,u3t,u3u,u3v,u3w,u3x,u3y,u3z,u144,u145,u146,u43,u44,u45,u46,u47,u48,u49,u4a,u4b,u4c,u4d,u4e,u4f,u4g,u4h,u4i,u4j,u4k,u4l,u4m,u4n,u4o,u4p,u4q,u4r,u4s,u4t,u4u,u4v,u4w,u4x,u4y,u4z,u50,u51,u52,u53,u54,u55,u56,u57,u58,u59,u5a,u5b,u5c,u5d,u5e,u5f,u5g,u5h,u5i,u5j,u5k,u5l,u5m,u5n,u5o,u5p,u5q,u5r,u5s,u5t,u5u,u5v,u5w,u5x,u5y,u5z,u60,u61,u62,u63,u64,u65,u66,u223,u224,u225,u6a,u6b,u6c,u6d,u6e,u6f,u6g,u6h,u6i,u6j,u6k,u6l,u6m,u6n,u6o,u6p,u6q,u6r,u6s,u6t,u6u,u6v,u6w,u6x,u6y,u6z,u252,u253,u254,u255,u256,u257,u258,u259,u260,u261,u7a,u7b,u7c,u7d,u7e,u7f,u7g,u7h,u7i,u7j,u7k,u7l,u7m,u7n,u7o,u7p,u7q,u7r,u7s,u7t,u7u,u7v,u7w,u7x,u7y,u7z,u288,u289,u290,u291,u292,u293,u294,u295,u296,u297,u8a,u8b,u8c,u8d,u8e,u8f,u8g,u8h,u8i,u8j,u8k,u8l,u8m],defers:=[] } W9) :
  Code.wp Tryz.prog C (Exit.then K E) { tmps:=#[v0,.slice av l.length cv,.slice fa fl fc,.slice la ll lc,v4,v5,v6,v7,v8,.pointer (some ⟨A,0,none⟩),v10,v11,v12,.pointer (some ⟨M,0,none⟩),.int .i64 0,v15,v16,v17,v18,v19,v20,v21,v22,v23,v24,v25,v26,v27,v28,v29,v30,v31,v32,v33,v34,v35,v36,v37,v38,v39,v40,v41,v42,v43,v44,v45,v46,v47,v48,v49,v50,v51,v52,v53,v54,v55,v56,v57,v58,v59,v60,v61,v62,v63,v64,v65,v66,v67,v68,v69,v70,v71,v72,v73,v74,v75,v76,v77,v78,v79,v80,v81,v82,v83,v84,v85,v86,v87,v88,v89,v90,v91,v92,v93,v94,v95,v96,v97,v98,v99,v2s,v2t,v2u,v2v,v2w,v2x,v2y,v2z,v108,v109,v110,v111,v112,v113,v114,v115,v116,v117,v3a,v3b,v3c,v3d,v3e,v3f,v3g,v3h,v3i,v3j,v3k,v3l,v3m,v3n,v3o,v3p,v3q,v3r,v3s,v3t,v3u,v3v,v3w,v3x,v3y,v3z,v144,v145,v146,v147,v148,v149,v150,v151,v152,v153,v4a,v4b,v4c,v4d,v4e,v4f,v4g,v4h,v4i,v4j,v4k,v4l,v4m,v4n,v4o,v4p,v4q,v4r,v4s,v4t,v4u,v4v,v4w,v4x,v4y,v4z,v180,v181,v182,v183,v184,v185,v186,v187,v188,v189,v5a,v5b,v5c,v5d,v5e,v5f,v5g,v5h,v5i,v5j,v5k,v5l,v5m,v5n,v5o,v5p,v5q,v5r,v5s,v5t,v5u,v5v,v5w,v5x,v5y,v5z,v216,v217,v218,v219,v220,v221,v222,v223,v224,v225,v6a,v6b,v6c,v6d,v6e,v6f,v6g,v6h,v6i,v6j,v6k,v6l,v6m,v6n,v6o,v6p,v6q,v6r,v6s,v6t,v6u,v6v,v6w,v6x,v6y,v6z,v252,v253,v254,v255,v256,v257,v258,v259,v260,v261,v7a,v7b,v7c,v7d,v7e,v7f,v7g,v7h,v7i,v7j,v7k,v7l,v7m,v7n,v7o,v7p,v7q,v7r,v7s,v7t,v7u,v7v,v7w,v7x,v7y,v7z,v288,v289,v290,v291,v292,v293,v294,v295,v296,v297,v8a,v8b,v8c,v8d,v8e,v8f,v8g,v8h,v8i,v8j,v8k,v8l,v8m],defers:=[] } W8:=by
 subst hC
 conv =>
  arg 2
  unfold tpBlk
  unfold Tryz.f3
  simp only [Option.getD_some,blkAt]
 conv =>
  arg 4
  zeta
 try simp (maxSteps:=10000000) only at hK
 have HK:=hidE hK
 clear hK
 go_wp2_with fail
 go_loopw [14] (fun v20 wr=>∃ i:Nat,v20 = .int .i64 (i:Int)∧i≤50∧Hid (TpS w A M wr)) (fun v20 _=>(100 - intOf v20).toNat)
 case atStart=>exact ⟨0,rfl,by omega,HS0⟩
 case round =>
  clear HS0
  obtain ⟨i,rfl,hi60,HS⟩:=hrel
  by_cases hi:i < l.length∧i < 50
  ·have hi1:(i:Int) < (l.length:Int):=by omega
   have hi2:(i:Int) < 50:=by omega
   obtain ⟨g,of,rfl,hg,hgc,hgm,hcells⟩:=HV.out.at (by omega)
   obtain ⟨c0,hN⟩:=hcells i hi.1
   obtain ⟨an,cn,ean⟩:=hN.len
   rw [ean] at c0 hN
   generalize (l[i]'hi.1).1=zs at c0 hN
   have HN:=hidE hN
   have HC0:Hid (∀ X',Below w.heap.size w X'→X'.cell? ⟨g,of+i,none⟩=some (.slice an zs.length cn)):=fun X' bX=>(bX.cell (p:=⟨g,of+i,none⟩) hg).trans c0
   clear hcells c0 ean hN
   go_upto_block 1 with fail
   refine tp_round w wr A M g of l.length cv i fl fc ll lc an fa la cn zs fs ss _ _ _ (by kernel_rfl) HO HS HE HL HN HC0 hi1 hgc hgm HFS HFL HSS HLL _ _ _ _ _ _ _ _ _ _ _ _ _ _ _ _ _ _ _ _ _ _ _ _ _ _ _ _ _ _ _ _ _ _ _ _ _ _ _ _ _ _ _ _ _ _ _ _ _ _ _ _ _ _ _ _ _ _ _ _ _ _ _ _ _ _ _ _ _ _ _ _ _ _ _ _ _ _ _ _ _ _ _ _ _ _ _ _ _ _ _ _ _ _ _ _ _ _ _ _ _ _ _ _ _ _ _ _ _ _ _ _ _ _ _ _ _ _ _ _ _ _ _ _ _ _ _ _ _ _ _ _ _ _ _ _ _ _ _ _ _ _ _ _ _ _ _ _ _ _ _ _ _ _ _ _ _ _ _ _ _ _ _ _ _ _ _ _ _ _ _ _ _ _ _ _ _ _ _ _ _ _ _ _ _ _ _ _ _ _ _ _ _ _ _ _ _ _ _ _ _ _ _ _ _ _ _ _ _ _ _ _ _ _ _ _ _ _ _ _ _ _ _ _ _ _ _ _ _ _ _ _ _ _ _ _ _ _ _ _ _ _ _ _ _ _ _ _ _ _ _ _ _ _ _ _ _ _ _ _ _ _ _ _ _ _ _ _ _ _ _ _ _ _ _ _ _ _ _ _ _ _ _ _ _ _ _ _ _ _ _ _ _ _ _ _ _ _ _ _ _ _ _ _ _ ?_
   intro W9
   iterate 263 intro _
   intro h9
   have H9:=hidE h9
   clear h9 HC0 HN HS
   conv =>
    arg 1
    zeta
   try go_step
   go_wp2_with fail
   go_roundw
   case rel=>exact ⟨i+1,by simp,by omega,H9⟩
   case measure=>simp only [intOf];omega
  ·rcases (by omega:(¬ (i:Int) < (l.length:Int))∨((i:Int) < (l.length:Int)∧¬ (i:Int) < 50)) with hd|⟨hd,hd2⟩
   all_goals
    clear hi
    go_wp2_with fail
    exact HK.out _ _ _ _ _ _ _ _ _ _ _ _ _ _ _ _ _ _ _ _ _ _ _ _ _ _ _ _ _ _ _ _ _ _ _ _ _ _ _ _ _ _ _ _ _ _ _ _ _ _ _ _ _ _ _ _ _ _ _ _ _ _ _ _ _ _ _ _ _ _ _ _ _ _ _ _ _ _ _ _ _ _ _ _ _ _ _ _ _ _ _ _ _ _ _ _ _ _ _ _ _ _ _ _ _ _ _ _ _ _ _ _ _ _ _ _ _ _ _ _ _ _ _ _ _ _ _ _ _ _ _ _ _ _ _ _ _ _ _ _ _ _ _ _ _ _ _ _ _ _ _ _ _ _ _ _ _ _ _ _ _ _ _ _ _ _ _ _ _ _ _ _ _ _ _ _ _ _ _ _ _ _ _ _ _ _ _ _ _ _ _ _ _ _ _ _ _ _ _ _ _ _ _ _ _ _ _ _ _ _ _ _ _ _ _ _ _ _ _ _ _ _ _ _ _ _ _ _ _ _ _ _ _ _ _ _ _ _ _ _ _ _ _ _ _ _ _ _ _ _ _ _ _ _ _ _ _ _ _ _ _ _ _ _ _ _ _ _ _ _ _ _ _ _ _ _ HS.out.bel
end Go.Proofs.YtkhheooofcpfdaaGreatDoor
namespace Go.Proofs.YtkhheooofcpfdaaGreatDoor
open Go.RowKit Go.Maps
set_option linter.unusedVariables false
theorem Sgs.len {w:World} {v:Value} {ss:List (Sg × Value)} (h:Sgs w v ss):∃ a c,v = .slice a ss.length c:=by
 rcases h with ⟨rfl,a,c,rfl⟩|⟨b,off,len,cap,rfl,_,_,rfl,_⟩
 ·exact ⟨a,c,rfl⟩
 ·exact ⟨_,_,rfl⟩
theorem Fls.len {w:World} {v:Value} {fs:List Fl} (h:Fls w v fs):∃ a c,v = .slice a fs.length c:=by
 rcases h with ⟨rfl,a,c,rfl⟩|⟨b,off,len,cap,rfl,_,_,rfl,_⟩
 ·exact ⟨a,c,rfl⟩
 ·exact ⟨_,_,rfl⟩
set_option maxRecDepth 100000 in
set_option maxHeartbeats 32000000 in
theorem tplays_bad (max:Int) (v fv sv:Value) (w:World) (hE:ErrLaid w) (hm:max < 1∨30 < max) :
  Calls Tryz.prog 3 #[.int .i64 max,v,fv,sv] w fun e w'=>e = .returned (.bool true)∧Below w.heap.size w w':=by
 have q1:=tnew_bad max w hm
 have q2:=tp_same 1 w hE
 rw [errV_no (by decide)] at q2
 clear hE
 rcases (by omega:max < 1∨(¬ max < 1∧30 < max)) with m1|⟨m1,m2⟩
 all_goals
  clear hm
  go_enter Tryz.func3,Tryz.ntmps3
  go_upto_region 5 with (go_at_call 4;go_must ((with_reducible refine q1.mono ?_);rintro e' W1 ⟨rfl,hw⟩;rw [hw];clear hw))
  go_wp2_with (go_at_call 5;go_must ((with_reducible refine q2.mono ?_);rintro e' W2 ⟨rfl,b2⟩))
  first|exact ⟨rfl,b2⟩|(go_ret;exact ⟨rfl,b2⟩)|(simp;exact b2)
set_option maxRecDepth 100000 in
set_option maxHeartbeats 32000000 in
theorem tplays_good (max:Int) (v fv sv:Value) (l:List (List Int × Value)) (fs:List Fl) (ss:List (Sg × Value)) (w:World) (hv:Rowz w v l) (hf:Fls w fv fs) (hs:Sgs w sv ss) (hE:ErrLaid w) (hL:Lives w) (hm:¬ (max < 1∨30 < max)) :
  Calls Tryz.prog 3 #[.int .i64 max,v,fv,sv] w fun e w'=>e = .returned (.bool true)∧Below w.heap.size w w':=by
 have HE:Hid (∀ W,Below w.heap.size w W→ErrLaid W):=fun W bW=>hE.below bW
 have HL:Hid (∀ W,Below w.heap.size w W→Lives W):=fun W bW=>hL.below bW
 obtain ⟨av,cv,rfl⟩:=hv.len
 obtain ⟨fa,fc,rfl⟩:=hf.len
 obtain ⟨la,lc,rfl⟩:=hs.len
 have HV:=hidE hv
 have HFS:=hidE hf
 have HSS:=hidE hs
 obtain ⟨fl,hfl⟩:∃ fl,fs.length=fl:=⟨_,rfl⟩
 obtain ⟨ll,hll⟩:∃ ll,ss.length=ll:=⟨_,rfl⟩
 rw [hfl] at HFS ⊢
 rw [hll] at HSS ⊢
 have HFL:=hidE hfl.symm
 have HLL:=hidE hll.symm
 have m1:¬ max < 1:=by omega
 have m2:¬ 30 < max:=by omega
 have q1:=tnew_good max w m1 m2
 have t1:=tnew_at max w
 have b1:Below w.heap.size w ((w.alloc (.map #[] 0)).alloc (.cells #[.int .i64 max,.int .i64 0,.map (some w.heap.size)] 76)):=((Below.refl _ _).alloc (Nat.le_refl _) _).alloc (by simp) _
 obtain ⟨W1,hW1⟩:∃ W1,(w.alloc (.map #[] 0)).alloc (.cells #[.int .i64 max,.int .i64 0,.map (some w.heap.size)] 76)=W1:=⟨_,rfl⟩
 rw [hW1] at q1 t1 b1
 have q2:=tp_same 0 W1 (HE.out W1 b1)
 rw [errV_ok] at q2
 have HT1:=hidE t1
 have HB1:=hidE b1
 have HM:=hidE hm
 clear hv hf hs hfl hll hE hL t1 b1 hm
 go_enter Tryz.func3,Tryz.ntmps3
 go_upto_region 5 with (go_at_call 4;go_must ((with_reducible refine q1.mono ?_);rintro e' W9 ⟨rfl,hw⟩;rw [hw];clear hw))
 clear hW1
 go_upto_region 8 with (go_at_call 5;go_must ((with_reducible refine q2.mono ?_);rintro e' W2 ⟨rfl,b2⟩))
 have HB2:=hidE (HB1.out.trans (b2.mono HB1.out.size))
 have HT2:=hidE (HT1.out.below b2)
 clear b2 q1 q2 HT1 HB1
 have b3:Below W2.heap.size W2 (W2.alloc (.cells #[.int .i64 max,.int .i64 0,.slice none 0 0] 33)):=(Below.refl _ _).alloc (Nat.le_refl _) _
 have HS3:Hid (TpS w (w.heap.size+1) W2.heap.size (W2.alloc (.cells #[.int .i64 max,.int .i64 0,.slice none 0 0] 33))) :=
  ⟨_,{ max:=max,now:=0,fs:=[] },⟨⟨_,Nat.le_refl _,HT2.out.below b3⟩,⟨.slice none 0 0,⟨heap_alloc_new _ _,OwnN.nil _ _⟩,by simp [Value.ownBlock]⟩,HB2.out.trans (b3.mono HB2.out.size)⟩,⟨⟨by have:=HM.out;show 1≤max∧max≤30;omega,⟨Int.le_refl 0,by show (0:Int)≤1000000;decide⟩,List.Pairwise.nil,by have:=HM.out;show (0:Int)≤max;omega⟩,⟨rfl,rfl,.refl _,List.Pairwise.nil⟩⟩⟩
 have HO:Hid (TpO w (w.heap.size+1) W2.heap.size):=⟨Nat.le_succ _,HB2.out.size⟩
 obtain ⟨A,hA⟩:∃ A,w.heap.size+1=A:=⟨_,rfl⟩
 obtain ⟨M,hM⟩:∃ M,W2.heap.size=M:=⟨_,rfl⟩
 rw [hA] at HS3 HO
 rw [hM] at HS3 HO
 go_upto_block 0 with fail
 obtain ⟨W4,hW4⟩:∃ W4,W2.alloc (.cells #[.int .i64 max,.int .i64 0,.slice none 0 0] 33)=W4:=⟨_,rfl⟩
 rw [hW4] at HS3
 try rw [hW4]
 try rw [hA]
 try rw [hM]
 have HS4:=HS3
 clear hW4 hA hM b3 HT2 HB2 HS3 HM m1 m2
 refine tp_loop w W4 A M cv fl fc ll lc av fa la l fs ss _ _ _ (by kernel_rfl) HO HS4 HE HL HV HFS HFL HSS HLL _ _ _ _ _ _ _ _ _ _ _ _ _ _ _ _ _ _ _ _ _ _ _ _ _ _ _ _ _ _ _ _ _ _ _ _ _ _ _ _ _ _ _ _ _ _ _ _ _ _ _ _ _ _ _ _ _ _ _ _ _ _ _ _ _ _ _ _ _ _ _ _ _ _ _ _ _ _ _ _ _ _ _ _ _ _ _ _ _ _ _ _ _ _ _ _ _ _ _ _ _ _ _ _ _ _ _ _ _ _ _ _ _ _ _ _ _ _ _ _ _ _ _ _ _ _ _ _ _ _ _ _ _ _ _ _ _ _ _ _ _ _ _ _ _ _ _ _ _ _ _ _ _ _ _ _ _ _ _ _ _ _ _ _ _ _ _ _ _ _ _ _ _ _ _ _ _ _ _ _ _ _ _ _ _ _ _ _ _ _ _ _ _ _ _ _ _ _ _ _ _ _ _ _ _ _ _ _ _ _ _ _ _ _ _ _ _ _ _ _ _ _ _ _ _ _ _ _ _ _ _ _ _ _ _ _ _ _ _ _ _ _ _ _ _ _ _ _ _ _ _ _ _ _ _ _ _ _ _ _ _ _ _ _ _ _ _ _ _ _ _ _ _ _ _ _ _ _ _ _ _ _ _ _ _ _ _ _ _ _ _ _ _ _ _ _ _ _ _ _ _ _ _ _ _ ?_
 intro W5
 iterate 275 intro _
 intro h5
 have H5:=hidE h5
 clear h5
 conv =>
  arg 1
  zeta
 try go_step
 go_wp2_with fail
 first|exact ⟨rfl,H5.out⟩|(go_ret;exact ⟨rfl,H5.out⟩)|(simp;exact H5.out)
theorem tplays_walk (max:Int) (v:Value) (l:List (List Int × Value)) (fv:Value) (fs:List Fl) (sv:Value) (ss:List (Sg × Value)) (w:World) {p:Prop} (_:p) (hv:Rowz w v l) (hl:l.length≤140737488355328) (hf:Fls w fv fs) (hs:Sgs w sv ss) (hE:ErrLaid w) (hL:Lives w) :
  Calls Tryz.prog 3 #[.int .i64 max,v,fv,sv] w fun e w'=>e = .returned (.bool true)∧Below w.heap.size w w':=by
 by_cases hm:max < 1∨30 < max
 ·exact tplays_bad max v fv sv w hE hm
 ·exact tplays_good max v fv sv l fs ss w hv hf hs hE hL hm
end Go.Proofs.YtkhheooofcpfdaaGreatDoor
