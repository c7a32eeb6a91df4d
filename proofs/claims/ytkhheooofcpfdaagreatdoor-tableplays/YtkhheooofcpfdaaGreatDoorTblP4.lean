/- TablePlays: Adopt of both. -/
import Derived.Test.YtkhheooofcpfdaaGreatDoorMiA
namespace Go.Proofs.YtkhheooofcpfdaaGreatDoor
open Go.RowKit Go.Maps
set_option linter.unusedVariables false
set_option maxRecDepth 100000 in
set_option maxHeartbeats 32000000 in
theorem tp_adoa (w W0:World) (A M V KB SB l c fl fc:Nat) (a fa:Option Addr) (t u:Tb) (k:Ky) (s:Sg) (fs:List Fl) (z0 z1 z2 z3:Int) (K:Act→World→Prop) (E:Exit→Act→World→Prop) (C:Code) (hC:C=tpBlk 4)
  (HO:Hid (TpO w A M)) (HT:Hid (TpT w A M t u W0)) (HN:Hid (TpN t u)) (HV:Hid (V4At W0 V z0 z1 z2 z3)) (HVL:Hid (w.heap.size≤V)) (HKY:Hid (KyAt W0 KB k)) (HKL:Hid (w.heap.size≤KB)) (HKO:Hid (KyOk k)) (HSG:Hid (SgAt W0 SB s (.slice a l c)))
  (HBY:Hid (∀ W,Below w.heap.size w W→Bytes W (.slice a l c) s.body)) (HFS:Hid (Fls w (.slice fa fl fc) fs)) (HE:Hid (∀ W,Below w.heap.size w W→ErrLaid W)) (hz0:z0=4∨z0=5) (hin:¬ (0≤z1∧z1 < (fl:Int))) (HL:Hid (∀ W,Below w.heap.size w W→Lives W))
  (v0 v1 v3 v4 v5 v6 v7 v8 v10 v11 v12 v14 v16 v20 v21 v22 v23 v24 v25 v26 v27 v28 v29 v30 v31 v32 v33 v34 v35 v36 v37 v38 v39 v40 v41 v42 v43 v44 v45 v46 v47 v48 v49 v50 v51 v52 v53 v54 v55 v56 v57 v58 v59 v60 v61 v62 v63 v64 v65 v66 v67 v68 v69 v70 v71 v72 v73 v74 v75 v76 v77 v78 v79 v80 v81 v82 v83 v84 v85 v86 v87 v88 v89 v90 v91 v92 v93 v94 v95 v96 v97 v98 v99 v2s v2t v2u v2v v2w v2x v2y v2z v108 v109 v110 v111 v112 v113 v114 v115 v116 v117 v3a v3b v3c v3d v3e v3f v3g v3h v3i v3j v3k v3l v3n v3o v3p v3q v3r v3s v3t v3u v3v v3w v3x v3y v3z v144 v145 v146 v147 v148 v149 v150 v151 v152 v153 v4a v4b v4c v4d v4e v4f v4g v4h v4i v4j v4k v4l v4m v4n v4o v4p v4q v4r v4s v4t v4u v4v v4w v4x v4y v4z v180 v181 v182 v183 v184 v185 v186 v187 v188 v189 v5a v5b v5c v5d v5e v5f v5g v5h v5i v5j v5k v5l v5m v5n v5o v5p v5q v5r v5s v5t v5u v5v v5w v5x v5y v5z v216 v217 v218 v219 v220 v221 v222 v223 v224 v225 v6a v6b v6c v6d v6e v6f v6g v6h v6i v6j v6k v6l v6m v6n v6o v6p v6q v6r v6s v6t v6u v6v v6w v6x v6y v6z v252 v253 v254 v255 v256 v257 v258 v259 v260 v261 v7a v7b v7c v7d v7e v7f v7g v7h v7i v7j v7k v7l v7m v7n v7o v7p v7q v7r v7s v7t v7u v7v v7w v7x v7y v7z v288 v289 v290 v291 v292 v293 v294 v295 v296 v297 v8a v8b v8c v8d v8e v8f v8g v8h v8i v8j v8k v8l v8m:Value)
  (hK:∀ (W9:World) (u20 u21 u22 u23 u24 u25 u26 u27 u28 u29 u30 u31 u32 u33 u34 u35 u36 u37 u3n u3o u3p u3q u3r u3s u3t u3u u3v u3w u3x u3y u3z u40 u41 u42 u43 u44 u45 u46 u47 u48 u49 u4a u4b u4c u4d u4e u4f u4g u4h u4i u4j u4k u4l u4m u4n u4o u4p u4q u4r u4s u4t u4u u4v u4w u4x u4y u4z u50 u51 u52 u53 u54 u55 u56 u57 u58 u59 u5a u5b u5c u5d u5e u5f u5g u5h u5i u5j u5k u5l u5m u5n u5o u5p u5q u5r u5s u5t u5u u5v u5w u5x u5y u5z u60 u61 u62 u63 u64 u65 u66 u67 u68 u69 u6a u6b u6c u6d u6e u6f u6g u6h u6i u6j u6k u6l u6m u6n u6o u6p u6q u6r u6s u6t u6u u6v u6w u6x u6y u6z u70 u71 u72 u73 u74 u75 u76 u77 u78 u79 u7a u7b u7c:Value),TpS w A M W9→(∃ k',KyOk k'∧KyAt W9 KB k')→K { tmps:=#[v0,v1,.slice fa fl fc,v3,v4,v5,v6,v7,v8,.pointer (some ⟨A,0,none⟩),v10,v11,.bool true,.pointer (some ⟨M,0,none⟩),v14,.pointer (some ⟨V,0,none⟩),v16,.pointer (some ⟨KB,0,none⟩),.pointer (some ⟨SB,0,none⟩),.int .i64 z3,u20,u21,u22,u23,u24,u25,u26,u27,u28,u29,u30,u31,u32,u33,u34,u35,u36,u37,v38,v39,v40,v41,v42,v43,v44,v45,v46,v47,v48,v49,v50,v51,v52,v53,v54,v55,v56,v57,v58,v59,v60,v61,v62,v63,v64,v65,v66,v67,v68,v69,v70,v71,v72,v73,v74,v75,v76,v77,v78,v79,v80,v81,v82,v83,v84,v85,v86,v87,v88,v89,v90,v91,v92,v93,v94,v95,v96,v97,v98,v99,v2s,v2t,v2u,v2v,v2w,v2x,v2y,v2z,v108,v109,v110,v111,v112,v113,v114,v115,v116,v117,v3a,v3b,v3c,v3d,v3e,v3f,v3g,v3h,v3i,v3j,v3k,v3l,.int .i64 z0,u3n,u3o,u3p,u3q,u3r,u3s,u3t,u3u,u3v,u3w,u3x,u3y,u3z,u40,u41,u42,u43,u44,u45,u46,u47,u48,u49,u4a,u4b,u4c,u4d,u4e,u4f,u4g,u4h,u4i,u4j,u4k,u4l,u4m,u4n,u4o,u4p,u4q,u4r,u4s,u4t,u4u,u4v,u4w,u4x,u4y,u4z,u50,u51,u52,u53,u54,u55,u56,u57,u58,u59,u5a,u5b,u5c,u5d,u5e,u5f,u5g,u5h,u5i,u5j,u5k,u5l,u5m,u5n,u5o,u5p,u5q,u5r,u5s,u5t,u5u,u5v,u5w,u5x,u5y,u5z,u60,u61,u62,u63,u64,u65,u66,u67,u68,u69,u6a,u6b,u6c,u6d,u6e,u6f,u6g,u6h,u6i,u6j,u6k,u6l,u6m,u6n,u6o,u6p,u6q,u6r,u6s,u6t,u6u,u6v,u6w,u6x,u6y,u6z,u70,u71,u72,u73,u74,u75,u76,u77,u78,u79,u7a,u7b,u7c,v7d,v7e,v7f,v7g,v7h,v7i,v7j,v7k,v7l,v7m,v7n,v7o,v7p,v7q,v7r,v7s,v7t,v7u,v7v,v7w,v7x,v7y,v7z,v288,v289,v290,v291,v292,v293,v294,v295,v296,v297,v8a,v8b,v8c,v8d,v8e,v8f,v8g,v8h,v8i,v8j,v8k,v8l,v8m],defers:=[] } W9) :
  Code.wp Tryz.prog C (Exit.then K E) { tmps:=#[v0,v1,.slice fa fl fc,v3,v4,v5,v6,v7,v8,.pointer (some ⟨A,0,none⟩),v10,v11,v12,.pointer (some ⟨M,0,none⟩),v14,.pointer (some ⟨V,0,none⟩),v16,.pointer (some ⟨KB,0,none⟩),.pointer (some ⟨SB,0,none⟩),.int .i64 z3,v20,v21,v22,v23,v24,v25,v26,v27,v28,v29,v30,v31,v32,v33,v34,v35,v36,v37,v38,v39,v40,v41,v42,v43,v44,v45,v46,v47,v48,v49,v50,v51,v52,v53,v54,v55,v56,v57,v58,v59,v60,v61,v62,v63,v64,v65,v66,v67,v68,v69,v70,v71,v72,v73,v74,v75,v76,v77,v78,v79,v80,v81,v82,v83,v84,v85,v86,v87,v88,v89,v90,v91,v92,v93,v94,v95,v96,v97,v98,v99,v2s,v2t,v2u,v2v,v2w,v2x,v2y,v2z,v108,v109,v110,v111,v112,v113,v114,v115,v116,v117,v3a,v3b,v3c,v3d,v3e,v3f,v3g,v3h,v3i,v3j,v3k,v3l,.int .i64 z0,v3n,v3o,v3p,v3q,v3r,v3s,v3t,v3u,v3v,v3w,v3x,v3y,v3z,v144,v145,v146,v147,v148,v149,v150,v151,v152,v153,v4a,v4b,v4c,v4d,v4e,v4f,v4g,v4h,v4i,v4j,v4k,v4l,v4m,v4n,v4o,v4p,v4q,v4r,v4s,v4t,v4u,v4v,v4w,v4x,v4y,v4z,v180,v181,v182,v183,v184,v185,v186,v187,v188,v189,v5a,v5b,v5c,v5d,v5e,v5f,v5g,v5h,v5i,v5j,v5k,v5l,v5m,v5n,v5o,v5p,v5q,v5r,v5s,v5t,v5u,v5v,v5w,v5x,v5y,v5z,v216,v217,v218,v219,v220,v221,v222,v223,v224,v225,v6a,v6b,v6c,v6d,v6e,v6f,v6g,v6h,v6i,v6j,v6k,v6l,v6m,v6n,v6o,v6p,v6q,v6r,v6s,v6t,v6u,v6v,v6w,v6x,v6y,v6z,v252,v253,v254,v255,v256,v257,v258,v259,v260,v261,v7a,v7b,v7c,v7d,v7e,v7f,v7g,v7h,v7i,v7j,v7k,v7l,v7m,v7n,v7o,v7p,v7q,v7r,v7s,v7t,v7u,v7v,v7w,v7x,v7y,v7z,v288,v289,v290,v291,v292,v293,v294,v295,v296,v297,v8a,v8b,v8c,v8d,v8e,v8f,v8g,v8h,v8i,v8j,v8k,v8l,v8m],defers:=[] } W0:=by
 subst hC
 conv =>
  arg 2
  unfold tpBlk
  unfold Tryz.f3
  simp only [Option.getD_some,blkAt]
 conv =>
  arg 4
  zeta
 try simp (maxSteps:=10000000) only at hK
 have HK:=hidE hK
 clear hK
 rcases hz0 with rfl|rfl
 all_goals
  have b1:Below W0.heap.size W0 (W0.alloc (.cells #[.int .i64 0,.int .i64 0,.int .i64 0,.int .i64 0,.int .i64 0,.int .i64 0,.int .i64 0,.int .i64 0,.int .i64 0,.int .i64 0,.int .i64 0,.int .i64 0,.bool false,.bool false,.int .i64 0] 45)):=(Below.refl _ _).alloc (Nat.le_refl _) _
  have p1:=FlAt.zero W0
  obtain ⟨Y,hY⟩:∃ Y,W0.heap.size=Y:=⟨_,rfl⟩
  have HYL:Hid (w.heap.size≤Y):=by rw [← hY];exact HT.out.bel.size
  obtain ⟨W1,hW1⟩:∃ W1,W0.alloc (.cells #[.int .i64 0,.int .i64 0,.int .i64 0,.int .i64 0,.int .i64 0,.int .i64 0,.int .i64 0,.int .i64 0,.int .i64 0,.int .i64 0,.int .i64 0,.int .i64 0,.bool false,.bool false,.int .i64 0] 45)=W1:=⟨_,rfl⟩
  rw [hW1] at b1 p1
  rw [hY] at p1
  have HT1:=hidE (HT.out.below b1)
  have HKY1:=hidE ((Kp.below b1).ky HKY.out)
  have V1:=(Kp.below b1).v4 HV.out
  have HP1:=hidE p1
  clear HT HKY HV b1
  obtain ⟨⟨_,c1,_,_⟩,_⟩:=v4_cells V1
  go_upto_region 51 with fail
  try rw [hW1]
  try rw [hY]
  clear hW1 hY
  obtain ⟨f,hf⟩:∃ f,zeroF=f:=⟨_,rfl⟩
  rw [hf] at HP1
  clear hf p1
  obtain ⟨d0,d1,d2,d3,d4,d5,d6,d7,d8,d9,d10,d11,d12,d13,d14⟩:=HP1.out.cells
  rcases (by omega:¬ (0:Int)≤z1∨((0:Int)≤z1∧¬ z1 < (fl:Int))) with j1|⟨j1,j2⟩
  all_goals
   clear hin
   go_upto_region 53 with fail
   obtain ⟨va,hv,hne⟩:=HT1.out.lr
   have q1:=ladopt_any M u va f z3 W1 hv HN.out.len.2 hne
   obtain ⟨z,hz⟩:∃ z,adE u f z3=z:=⟨_,rfl⟩
   obtain ⟨X,hX⟩:∃ X,adB u f z3=X:=⟨_,rfl⟩
   rw [hz,hX] at q1
   have HZ:Hid (adE t f z3=z∧adB t f z3=X):=⟨by rw [← hz];exact HN.out.tw.adE _ _,by rw [← hX];exact HN.out.tw.adB _ _⟩
   obtain ⟨x,hx⟩:∃ x,(if z=0 then X else false)=x:=⟨_,rfl⟩
   rw [hx] at q1
   have HX:=hidE hx
   unfold flV at q1
   clear hz hX hx
   go_upto_region 54 with (go_at_call 12;go_must ((with_reducible refine q1.mono ?_);rintro e' W2 ⟨rfl,nx1,g9⟩))
   obtain ⟨T2,K2⟩:=HT1.out.setM HO.out hv nx1 g9
   have HT2:=hidE T2
   have HP2:=hidE (K2.fl HP1.out)
   have HKY2:=hidE (K2.ky HKY1.out)
   obtain ⟨m,hm,hb⟩:=T2.tb
   have q2:=adopt_at A m t f z3 W2 hb HN.out.ok (HL.out W2 T2.bel)
   rw [HZ.out.1,HZ.out.2,HX.out] at q2
   unfold flV at q2
   clear d0 d1 d2 d3 d4 d5 d6 d7 d8 d9 d10 d11 d12 d13 d14 q1 T2 K2 nx1 g9 hv hne
   obtain ⟨d0,d1,d2,d3,d4,d5,d6,d7,d8,d9,d10,d11,d12,d13,d14⟩:=HP2.out.cells
   generalize hev:errV z=ev at q2
   have HEV:=hidE hev
   clear hev
   go_upto_region 55 with (go_at_call 13;go_must ((with_reducible refine q2.mono ?_);rintro e' W3 ⟨rfl,nx3,g9⟩))
   obtain ⟨T3,K3⟩:=HT2.out.setA HO.out hm hb nx3 g9
   have q3:=tp_same z W3 (HE.out W3 T3.bel)
   rw [HEV.out] at q3
   have HT3:=hidE T3
   have HKY3:=hidE (K3.ky HKY2.out)
   clear d0 d1 d2 d3 d4 d5 d6 d7 d8 d9 d10 d11 d12 d13 d14 q2 T3 K3 nx3 g9 hm hb
   go_upto_region 56 with (go_at_call 5;go_must ((with_reducible refine q3.mono ?_);rintro e' W5 ⟨rfl,b5⟩))
   have HT5:=hidE (HT3.out.below b5)
   have HKY5:=hidE ((Kp.below b5).ky HKY3.out)
   clear b5 q3
   cases x
   all_goals
    go_wp2_with fail
    exact HK.out _ _ _ _ _ _ _ _ _ _ _ _ _ _ _ _ _ _ _ _ _ _ _ _ _ _ _ _ _ _ _ _ _ _ _ _ _ _ _ _ _ _ _ _ _ _ _ _ _ _ _ _ _ _ _ _ _ _ _ _ _ _ _ _ _ _ _ _ _ _ _ _ _ _ _ _ _ _ _ _ _ _ _ _ _ _ _ _ _ _ _ _ _ _ _ _ _ _ _ _ _ _ _ _ _ _ _ _ _ _ _ _ _ _ _ _ _ _ _ _ _ _ _ _ _ _ _ _ _ _ _ _ _ _ _ _ _ _ _ _ _ _ _ _ _ _ _ _ _ _ _ _ _ ⟨_,_,HT5.out,HN.out.adopted f z3⟩ ⟨k,HKO.out,HKY5.out⟩
set_option maxRecDepth 100000 in
set_option maxHeartbeats 32000000 in
theorem tp_adob (w W0:World) (A M V KB SB l c fl fc:Nat) (a fa:Option Addr) (t u:Tb) (k:Ky) (s:Sg) (fs:List Fl) (n:Nat) (z0 z2 z3:Int) (K:Act→World→Prop) (E:Exit→Act→World→Prop) (C:Code) (hC:C=tpBlk 4)
  (HO:Hid (TpO w A M)) (HT:Hid (TpT w A M t u W0)) (HN:Hid (TpN t u)) (HV:Hid (V4At W0 V z0 (n:Int) z2 z3)) (HVL:Hid (w.heap.size≤V)) (HKY:Hid (KyAt W0 KB k)) (HKL:Hid (w.heap.size≤KB)) (HKO:Hid (KyOk k)) (HSG:Hid (SgAt W0 SB s (.slice a l c)))
  (HBY:Hid (∀ W,Below w.heap.size w W→Bytes W (.slice a l c) s.body)) (HFS:Hid (Fls w (.slice fa fl fc) fs)) (HE:Hid (∀ W,Below w.heap.size w W→ErrLaid W)) (hz0:z0=4∨z0=5) (hn:n < fs.length) (HL:Hid (∀ W,Below w.heap.size w W→Lives W))
  (v0 v1 v3 v4 v5 v6 v7 v8 v10 v11 v12 v14 v16 v20 v21 v22 v23 v24 v25 v26 v27 v28 v29 v30 v31 v32 v33 v34 v35 v36 v37 v38 v39 v40 v41 v42 v43 v44 v45 v46 v47 v48 v49 v50 v51 v52 v53 v54 v55 v56 v57 v58 v59 v60 v61 v62 v63 v64 v65 v66 v67 v68 v69 v70 v71 v72 v73 v74 v75 v76 v77 v78 v79 v80 v81 v82 v83 v84 v85 v86 v87 v88 v89 v90 v91 v92 v93 v94 v95 v96 v97 v98 v99 v2s v2t v2u v2v v2w v2x v2y v2z v108 v109 v110 v111 v112 v113 v114 v115 v116 v117 v3a v3b v3c v3d v3e v3f v3g v3h v3i v3j v3k v3l v3n v3o v3p v3q v3r v3s v3t v3u v3v v3w v3x v3y v3z v144 v145 v146 v147 v148 v149 v150 v151 v152 v153 v4a v4b v4c v4d v4e v4f v4g v4h v4i v4j v4k v4l v4m v4n v4o v4p v4q v4r v4s v4t v4u v4v v4w v4x v4y v4z v180 v181 v182 v183 v184 v185 v186 v187 v188 v189 v5a v5b v5c v5d v5e v5f v5g v5h v5i v5j v5k v5l v5m v5n v5o v5p v5q v5r v5s v5t v5u v5v v5w v5x v5y v5z v216 v217 v218 v219 v220 v221 v222 v223 v224 v225 v6a v6b v6c v6d v6e v6f v6g v6h v6i v6j v6k v6l v6m v6n v6o v6p v6q v6r v6s v6t v6u v6v v6w v6x v6y v6z v252 v253 v254 v255 v256 v257 v258 v259 v260 v261 v7a v7b v7c v7d v7e v7f v7g v7h v7i v7j v7k v7l v7m v7n v7o v7p v7q v7r v7s v7t v7u v7v v7w v7x v7y v7z v288 v289 v290 v291 v292 v293 v294 v295 v296 v297 v8a v8b v8c v8d v8e v8f v8g v8h v8i v8j v8k v8l v8m:Value)
  (hK:∀ (W9:World) (u20 u21 u22 u23 u24 u25 u26 u27 u28 u29 u30 u31 u32 u33 u34 u35 u36 u37 u3n u3o u3p u3q u3r u3s u3t u3u u3v u3w u3x u3y u3z u40 u41 u42 u43 u44 u45 u46 u47 u48 u49 u4a u4b u4c u4d u4e u4f u4g u4h u4i u4j u4k u4l u4m u4n u4o u4p u4q u4r u4s u4t u4u u4v u4w u4x u4y u4z u50 u51 u52 u53 u54 u55 u56 u57 u58 u59 u5a u5b u5c u5d u5e u5f u5g u5h u5i u5j u5k u5l u5m u5n u5o u5p u5q u5r u5s u5t u5u u5v u5w u5x u5y u5z u60 u61 u62 u63 u64 u65 u66 u67 u68 u69 u6a u6b u6c u6d u6e u6f u6g u6h u6i u6j u6k u6l u6m u6n u6o u6p u6q u6r u6s u6t u6u u6v u6w u6x u6y u6z u70 u71 u72 u73 u74 u75 u76 u77 u78 u79 u7a u7b u7c:Value),TpS w A M W9→(∃ k',KyOk k'∧KyAt W9 KB k')→K { tmps:=#[v0,v1,.slice fa fl fc,v3,v4,v5,v6,v7,v8,.pointer (some ⟨A,0,none⟩),v10,v11,.bool true,.pointer (some ⟨M,0,none⟩),v14,.pointer (some ⟨V,0,none⟩),v16,.pointer (some ⟨KB,0,none⟩),.pointer (some ⟨SB,0,none⟩),.int .i64 z3,u20,u21,u22,u23,u24,u25,u26,u27,u28,u29,u30,u31,u32,u33,u34,u35,u36,u37,v38,v39,v40,v41,v42,v43,v44,v45,v46,v47,v48,v49,v50,v51,v52,v53,v54,v55,v56,v57,v58,v59,v60,v61,v62,v63,v64,v65,v66,v67,v68,v69,v70,v71,v72,v73,v74,v75,v76,v77,v78,v79,v80,v81,v82,v83,v84,v85,v86,v87,v88,v89,v90,v91,v92,v93,v94,v95,v96,v97,v98,v99,v2s,v2t,v2u,v2v,v2w,v2x,v2y,v2z,v108,v109,v110,v111,v112,v113,v114,v115,v116,v117,v3a,v3b,v3c,v3d,v3e,v3f,v3g,v3h,v3i,v3j,v3k,v3l,.int .i64 z0,u3n,u3o,u3p,u3q,u3r,u3s,u3t,u3u,u3v,u3w,u3x,u3y,u3z,u40,u41,u42,u43,u44,u45,u46,u47,u48,u49,u4a,u4b,u4c,u4d,u4e,u4f,u4g,u4h,u4i,u4j,u4k,u4l,u4m,u4n,u4o,u4p,u4q,u4r,u4s,u4t,u4u,u4v,u4w,u4x,u4y,u4z,u50,u51,u52,u53,u54,u55,u56,u57,u58,u59,u5a,u5b,u5c,u5d,u5e,u5f,u5g,u5h,u5i,u5j,u5k,u5l,u5m,u5n,u5o,u5p,u5q,u5r,u5s,u5t,u5u,u5v,u5w,u5x,u5y,u5z,u60,u61,u62,u63,u64,u65,u66,u67,u68,u69,u6a,u6b,u6c,u6d,u6e,u6f,u6g,u6h,u6i,u6j,u6k,u6l,u6m,u6n,u6o,u6p,u6q,u6r,u6s,u6t,u6u,u6v,u6w,u6x,u6y,u6z,u70,u71,u72,u73,u74,u75,u76,u77,u78,u79,u7a,u7b,u7c,v7d,v7e,v7f,v7g,v7h,v7i,v7j,v7k,v7l,v7m,v7n,v7o,v7p,v7q,v7r,v7s,v7t,v7u,v7v,v7w,v7x,v7y,v7z,v288,v289,v290,v291,v292,v293,v294,v295,v296,v297,v8a,v8b,v8c,v8d,v8e,v8f,v8g,v8h,v8i,v8j,v8k,v8l,v8m],defers:=[] } W9) :
  Code.wp Tryz.prog C (Exit.then K E) { tmps:=#[v0,v1,.slice fa fl fc,v3,v4,v5,v6,v7,v8,.pointer (some ⟨A,0,none⟩),v10,v11,v12,.pointer (some ⟨M,0,none⟩),v14,.pointer (some ⟨V,0,none⟩),v16,.pointer (some ⟨KB,0,none⟩),.pointer (some ⟨SB,0,none⟩),.int .i64 z3,v20,v21,v22,v23,v24,v25,v26,v27,v28,v29,v30,v31,v32,v33,v34,v35,v36,v37,v38,v39,v40,v41,v42,v43,v44,v45,v46,v47,v48,v49,v50,v51,v52,v53,v54,v55,v56,v57,v58,v59,v60,v61,v62,v63,v64,v65,v66,v67,v68,v69,v70,v71,v72,v73,v74,v75,v76,v77,v78,v79,v80,v81,v82,v83,v84,v85,v86,v87,v88,v89,v90,v91,v92,v93,v94,v95,v96,v97,v98,v99,v2s,v2t,v2u,v2v,v2w,v2x,v2y,v2z,v108,v109,v110,v111,v112,v113,v114,v115,v116,v117,v3a,v3b,v3c,v3d,v3e,v3f,v3g,v3h,v3i,v3j,v3k,v3l,.int .i64 z0,v3n,v3o,v3p,v3q,v3r,v3s,v3t,v3u,v3v,v3w,v3x,v3y,v3z,v144,v145,v146,v147,v148,v149,v150,v151,v152,v153,v4a,v4b,v4c,v4d,v4e,v4f,v4g,v4h,v4i,v4j,v4k,v4l,v4m,v4n,v4o,v4p,v4q,v4r,v4s,v4t,v4u,v4v,v4w,v4x,v4y,v4z,v180,v181,v182,v183,v184,v185,v186,v187,v188,v189,v5a,v5b,v5c,v5d,v5e,v5f,v5g,v5h,v5i,v5j,v5k,v5l,v5m,v5n,v5o,v5p,v5q,v5r,v5s,v5t,v5u,v5v,v5w,v5x,v5y,v5z,v216,v217,v218,v219,v220,v221,v222,v223,v224,v225,v6a,v6b,v6c,v6d,v6e,v6f,v6g,v6h,v6i,v6j,v6k,v6l,v6m,v6n,v6o,v6p,v6q,v6r,v6s,v6t,v6u,v6v,v6w,v6x,v6y,v6z,v252,v253,v254,v255,v256,v257,v258,v259,v260,v261,v7a,v7b,v7c,v7d,v7e,v7f,v7g,v7h,v7i,v7j,v7k,v7l,v7m,v7n,v7o,v7p,v7q,v7r,v7s,v7t,v7u,v7v,v7w,v7x,v7y,v7z,v288,v289,v290,v291,v292,v293,v294,v295,v296,v297,v8a,v8b,v8c,v8d,v8e,v8f,v8g,v8h,v8i,v8j,v8k,v8l,v8m],defers:=[] } W0:=by
 subst hC
 conv =>
  arg 2
  unfold tpBlk
  unfold Tryz.f3
  simp only [Option.getD_some,blkAt]
 conv =>
  arg 4
  zeta
 try simp (maxSteps:=10000000) only at hK
 have HK:=hidE hK
 clear hK
 rcases hz0 with rfl|rfl
 all_goals
  have b1:Below W0.heap.size W0 (W0.alloc (.cells #[.int .i64 0,.int .i64 0,.int .i64 0,.int .i64 0,.int .i64 0,.int .i64 0,.int .i64 0,.int .i64 0,.int .i64 0,.int .i64 0,.int .i64 0,.int .i64 0,.bool false,.bool false,.int .i64 0] 45)):=(Below.refl _ _).alloc (Nat.le_refl _) _
  have p1:=FlAt.zero W0
  obtain ⟨Y,hY⟩:∃ Y,W0.heap.size=Y:=⟨_,rfl⟩
  have HYL:Hid (w.heap.size≤Y):=by rw [← hY];exact HT.out.bel.size
  obtain ⟨W1,hW1⟩:∃ W1,W0.alloc (.cells #[.int .i64 0,.int .i64 0,.int .i64 0,.int .i64 0,.int .i64 0,.int .i64 0,.int .i64 0,.int .i64 0,.int .i64 0,.int .i64 0,.int .i64 0,.int .i64 0,.bool false,.bool false,.int .i64 0] 45)=W1:=⟨_,rfl⟩
  rw [hW1] at b1 p1
  rw [hY] at p1
  have V1:=(Kp.below b1).v4 HV.out
  have bw:=(HT.out.below b1).bel
  clear HV
  obtain ⟨⟨_,c1,_,_⟩,_⟩:=v4_cells V1
  obtain ⟨fb,fo,hfa,hfl,hfc,hfm,hcl⟩:∃ fb fo,fa=some ⟨fb,fo,none⟩∧fl=fs.length∧fl≤fc∧fc≤9223372036854775807∧FlCells w fb (fo+n * 15) fs[n]:=by
   rcases HFS.out with ⟨rfl,_⟩|⟨fb,fo,len,cap,e,h1,h2,h3,h4⟩
   ·simp at hn
   ·simp only [Value.slice.injEq] at e
    obtain ⟨rfl,rfl,rfl⟩:=e
    unfold maxLen at h2
    exact ⟨fb,fo,rfl,h3.symm,h1,by omega,h4 n hn⟩
  subst hfa
  have j1:(0:Int)≤(n:Int):=by omega
  have j2:(n:Int) < (fl:Int):=by omega
  have hcl1:=hcl.blk (bw.block fb hcl.lt)
  obtain ⟨f,hf⟩:∃ f,fs[n]=f:=⟨_,rfl⟩
  rw [hf] at hcl1
  obtain ⟨e0,e1,e2,e3,e4,e5,e6,e7,e8,e9,e10,e11,e12,e13,e14⟩:=hcl1
  obtain ⟨y0,y1,y2,y3,y4,y5,y6,y7,y8,y9,y10,y11,y12,y13,y14⟩:=p1.frees
  obtain ⟨t0,t1,t2,t3,t4,t5,t6,t7,t8,t9,t10,t11,t12,t13,t14⟩:=zero_cells p1
  obtain ⟨W6,hW6,p6,o6⟩:=p1.store f
  have b6:Below W0.heap.size W0 W6:=o6.below (Nat.le_of_eq hY) b1
  have HT1:=hidE (HT.out.below b6)
  have HKY1:=hidE ((Kp.below b6).ky HKY.out)
  have HP1:=hidE p6
  have HW6:=hidE hW6
  clear hcl hf hfl hn hW6 p6 o6 p1 bw b6 b1 HT HKY V1
  go_upto_region 51 with fail
  try rw [hW1]
  try rw [hY]
  clear hW1 hY
  go_upto_region 53 with fail
  rw [HW6.out]
  clear t0 t1 t2 t3 t4 t5 t6 t7 t8 t9 t10 t11 t12 t13 t14 y0 y1 y2 y3 y4 y5 y6 y7 y8 y9 y10 y11 y12 y13 y14 e0 e1 e2 e3 e4 e5 e6 e7 e8 e9 e10 e11 e12 e13 e14 c1
  obtain ⟨d0,d1,d2,d3,d4,d5,d6,d7,d8,d9,d10,d11,d12,d13,d14⟩:=HP1.out.cells
  obtain ⟨va,hv,hne⟩:=HT1.out.lr
  have q1:=ladopt_any M u va f z3 W6 hv HN.out.len.2 hne
  obtain ⟨z,hz⟩:∃ z,adE u f z3=z:=⟨_,rfl⟩
  obtain ⟨X,hX⟩:∃ X,adB u f z3=X:=⟨_,rfl⟩
  rw [hz,hX] at q1
  have HZ:Hid (adE t f z3=z∧adB t f z3=X):=⟨by rw [← hz];exact HN.out.tw.adE _ _,by rw [← hX];exact HN.out.tw.adB _ _⟩
  obtain ⟨x,hx⟩:∃ x,(if z=0 then X else false)=x:=⟨_,rfl⟩
  rw [hx] at q1
  have HX:=hidE hx
  unfold flV at q1
  clear hz hX hx
  go_upto_region 54 with (go_at_call 12;go_must ((with_reducible refine q1.mono ?_);rintro e' W2 ⟨rfl,nx1,g9⟩))
  obtain ⟨T2,K2⟩:=HT1.out.setM HO.out hv nx1 g9
  have HT2:=hidE T2
  have HP2:=hidE (K2.fl HP1.out)
  have HKY2:=hidE (K2.ky HKY1.out)
  obtain ⟨m,hm,hb⟩:=T2.tb
  have q2:=adopt_at A m t f z3 W2 hb HN.out.ok (HL.out W2 T2.bel)
  rw [HZ.out.1,HZ.out.2,HX.out] at q2
  unfold flV at q2
  clear d0 d1 d2 d3 d4 d5 d6 d7 d8 d9 d10 d11 d12 d13 d14 q1 T2 K2 nx1 g9 hv hne
  obtain ⟨d0,d1,d2,d3,d4,d5,d6,d7,d8,d9,d10,d11,d12,d13,d14⟩:=HP2.out.cells
  generalize hev:errV z=ev at q2
  have HEV:=hidE hev
  clear hev
  go_upto_region 55 with (go_at_call 13;go_must ((with_reducible refine q2.mono ?_);rintro e' W3 ⟨rfl,nx3,g9⟩))
  obtain ⟨T3,K3⟩:=HT2.out.setA HO.out hm hb nx3 g9
  have q3:=tp_same z W3 (HE.out W3 T3.bel)
  rw [HEV.out] at q3
  have HT3:=hidE T3
  have HKY3:=hidE (K3.ky HKY2.out)
  clear d0 d1 d2 d3 d4 d5 d6 d7 d8 d9 d10 d11 d12 d13 d14 q2 T3 K3 nx3 g9 hm hb
  go_upto_region 56 with (go_at_call 5;go_must ((with_reducible refine q3.mono ?_);rintro e' W5 ⟨rfl,b5⟩))
  have HT5:=hidE (HT3.out.below b5)
  have HKY5:=hidE ((Kp.below b5).ky HKY3.out)
  clear b5 q3
  cases x
  all_goals
   go_wp2_with fail
   exact HK.out _ _ _ _ _ _ _ _ _ _ _ _ _ _ _ _ _ _ _ _ _ _ _ _ _ _ _ _ _ _ _ _ _ _ _ _ _ _ _ _ _ _ _ _ _ _ _ _ _ _ _ _ _ _ _ _ _ _ _ _ _ _ _ _ _ _ _ _ _ _ _ _ _ _ _ _ _ _ _ _ _ _ _ _ _ _ _ _ _ _ _ _ _ _ _ _ _ _ _ _ _ _ _ _ _ _ _ _ _ _ _ _ _ _ _ _ _ _ _ _ _ _ _ _ _ _ _ _ _ _ _ _ _ _ _ _ _ _ _ _ _ _ _ _ _ _ _ _ _ _ _ _ _ ⟨_,_,HT5.out,HN.out.adopted f z3⟩ ⟨k,HKO.out,HKY5.out⟩
end Go.Proofs.YtkhheooofcpfdaaGreatDoor
