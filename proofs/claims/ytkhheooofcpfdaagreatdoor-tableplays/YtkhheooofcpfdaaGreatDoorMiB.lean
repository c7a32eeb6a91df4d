/- TablePlays: Begin of both. -/
import Derived.Test.YtkhheooofcpfdaaGreatDoorMiA
namespace Go.Proofs.YtkhheooofcpfdaaGreatDoor
open Go.RowKit Go.Maps
set_option linter.unusedVariables false
set_option maxRecDepth 100000 in
set_option maxHeartbeats 32000000 in
theorem tp_beg (w W0:World) (A M V KB SB l c fl fc:Nat) (a fa:Option Addr) (t u:Tb) (k:Ky) (s:Sg) (fs:List Fl) (z0 z1 z2 z3:Int) (K:Act→World→Prop) (E:Exit→Act→World→Prop) (C:Code) (hC:C=tpBlk 4)
  (HO:Hid (TpO w A M)) (HT:Hid (TpT w A M t u W0)) (HN:Hid (TpN t u)) (HV:Hid (V4At W0 V z0 z1 z2 z3)) (HVL:Hid (w.heap.size≤V)) (HKY:Hid (KyAt W0 KB k)) (HKL:Hid (w.heap.size≤KB)) (HKO:Hid (KyOk k)) (HSG:Hid (SgAt W0 SB s (.slice a l c)))
  (HBY:Hid (∀ W,Below w.heap.size w W→Bytes W (.slice a l c) s.body)) (HFS:Hid (Fls w (.slice fa fl fc) fs)) (HE:Hid (∀ W,Below w.heap.size w W→ErrLaid W)) (hz0:z0=0∨z0=1) (HL:Hid (∀ W,Below w.heap.size w W→Lives W))
  (v0 v1 v3 v4 v5 v6 v7 v8 v10 v11 v12 v14 v16 v20 v21 v22 v23 v24 v25 v26 v27 v28 v29 v30 v31 v32 v33 v34 v35 v36 v37 v38 v39 v40 v41 v42 v43 v44 v45 v46 v47 v48 v49 v50 v51 v52 v53 v54 v55 v56 v57 v58 v59 v60 v61 v62 v63 v64 v65 v66 v67 v68 v69 v70 v71 v72 v73 v74 v75 v76 v77 v78 v79 v80 v81 v82 v83 v84 v85 v86 v87 v88 v89 v90 v91 v92 v93 v94 v95 v96 v97 v98 v99 v2s v2t v2u v2v v2w v2x v2y v2z v108 v109 v110 v111 v112 v113 v114 v115 v116 v117 v3a v3b v3c v3d v3e v3f v3g v3h v3i v3j v3k v3l v3n v3o v3p v3q v3r v3s v3t v3u v3v v3w v3x v3y v3z v144 v145 v146 v147 v148 v149 v150 v151 v152 v153 v4a v4b v4c v4d v4e v4f v4g v4h v4i v4j v4k v4l v4m v4n v4o v4p v4q v4r v4s v4t v4u v4v v4w v4x v4y v4z v180 v181 v182 v183 v184 v185 v186 v187 v188 v189 v5a v5b v5c v5d v5e v5f v5g v5h v5i v5j v5k v5l v5m v5n v5o v5p v5q v5r v5s v5t v5u v5v v5w v5x v5y v5z v216 v217 v218 v219 v220 v221 v222 v223 v224 v225 v6a v6b v6c v6d v6e v6f v6g v6h v6i v6j v6k v6l v6m v6n v6o v6p v6q v6r v6s v6t v6u v6v v6w v6x v6y v6z v252 v253 v254 v255 v256 v257 v258 v259 v260 v261 v7a v7b v7c v7d v7e v7f v7g v7h v7i v7j v7k v7l v7m v7n v7o v7p v7q v7r v7s v7t v7u v7v v7w v7x v7y v7z v288 v289 v290 v291 v292 v293 v294 v295 v296 v297 v8a v8b v8c v8d v8e v8f v8g v8h v8i v8j v8k v8l v8m:Value)
  (hK:∀ (W9:World) (u20 u21 u22 u23 u24 u25 u26 u27 u28 u29 u30 u31 u32 u33 u34 u35 u36 u37 u3n u3o u3p u3q u3r u3s u3t u3u u3v u3w u3x u3y u3z u40 u41 u42 u43 u44 u45 u46 u47 u48 u49 u4a u4b u4c u4d u4e u4f u4g u4h u4i u4j u4k u4l u4m u4n u4o u4p u4q u4r u4s u4t u4u u4v u4w u4x u4y u4z u50 u51 u52 u53 u54 u55 u56 u57 u58 u59 u5a u5b u5c u5d u5e u5f u5g u5h u5i u5j u5k u5l u5m u5n u5o u5p u5q u5r u5s u5t u5u u5v u5w u5x u5y u5z u60 u61 u62 u63 u64 u65 u66 u67 u68 u69 u6a u6b u6c u6d u6e u6f u6g u6h u6i u6j u6k u6l u6m u6n u6o u6p u6q u6r u6s u6t u6u u6v u6w u6x u6y u6z u70 u71 u72 u73 u74 u75 u76 u77 u78 u79 u7a u7b u7c:Value),TpS w A M W9→(∃ k',KyOk k'∧KyAt W9 KB k')→K { tmps:=#[v0,v1,.slice fa fl fc,v3,v4,v5,v6,v7,v8,.pointer (some ⟨A,0,none⟩),v10,v11,.bool true,.pointer (some ⟨M,0,none⟩),v14,.pointer (some ⟨V,0,none⟩),v16,.pointer (some ⟨KB,0,none⟩),.pointer (some ⟨SB,0,none⟩),.int .i64 z3,u20,u21,u22,u23,u24,u25,u26,u27,u28,u29,u30,u31,u32,u33,u34,u35,u36,u37,v38,v39,v40,v41,v42,v43,v44,v45,v46,v47,v48,v49,v50,v51,v52,v53,v54,v55,v56,v57,v58,v59,v60,v61,v62,v63,v64,v65,v66,v67,v68,v69,v70,v71,v72,v73,v74,v75,v76,v77,v78,v79,v80,v81,v82,v83,v84,v85,v86,v87,v88,v89,v90,v91,v92,v93,v94,v95,v96,v97,v98,v99,v2s,v2t,v2u,v2v,v2w,v2x,v2y,v2z,v108,v109,v110,v111,v112,v113,v114,v115,v116,v117,v3a,v3b,v3c,v3d,v3e,v3f,v3g,v3h,v3i,v3j,v3k,v3l,.int .i64 z0,u3n,u3o,u3p,u3q,u3r,u3s,u3t,u3u,u3v,u3w,u3x,u3y,u3z,u40,u41,u42,u43,u44,u45,u46,u47,u48,u49,u4a,u4b,u4c,u4d,u4e,u4f,u4g,u4h,u4i,u4j,u4k,u4l,u4m,u4n,u4o,u4p,u4q,u4r,u4s,u4t,u4u,u4v,u4w,u4x,u4y,u4z,u50,u51,u52,u53,u54,u55,u56,u57,u58,u59,u5a,u5b,u5c,u5d,u5e,u5f,u5g,u5h,u5i,u5j,u5k,u5l,u5m,u5n,u5o,u5p,u5q,u5r,u5s,u5t,u5u,u5v,u5w,u5x,u5y,u5z,u60,u61,u62,u63,u64,u65,u66,u67,u68,u69,u6a,u6b,u6c,u6d,u6e,u6f,u6g,u6h,u6i,u6j,u6k,u6l,u6m,u6n,u6o,u6p,u6q,u6r,u6s,u6t,u6u,u6v,u6w,u6x,u6y,u6z,u70,u71,u72,u73,u74,u75,u76,u77,u78,u79,u7a,u7b,u7c,v7d,v7e,v7f,v7g,v7h,v7i,v7j,v7k,v7l,v7m,v7n,v7o,v7p,v7q,v7r,v7s,v7t,v7u,v7v,v7w,v7x,v7y,v7z,v288,v289,v290,v291,v292,v293,v294,v295,v296,v297,v8a,v8b,v8c,v8d,v8e,v8f,v8g,v8h,v8i,v8j,v8k,v8l,v8m],defers:=[] } W9) :
  Code.wp Tryz.prog C (Exit.then K E) { tmps:=#[v0,v1,.slice fa fl fc,v3,v4,v5,v6,v7,v8,.pointer (some ⟨A,0,none⟩),v10,v11,v12,.pointer (some ⟨M,0,none⟩),v14,.pointer (some ⟨V,0,none⟩),v16,.pointer (some ⟨KB,0,none⟩),.pointer (some ⟨SB,0,none⟩),.int .i64 z3,v20,v21,v22,v23,v24,v25,v26,v27,v28,v29,v30,v31,v32,v33,v34,v35,v36,v37,v38,v39,v40,v41,v42,v43,v44,v45,v46,v47,v48,v49,v50,v51,v52,v53,v54,v55,v56,v57,v58,v59,v60,v61,v62,v63,v64,v65,v66,v67,v68,v69,v70,v71,v72,v73,v74,v75,v76,v77,v78,v79,v80,v81,v82,v83,v84,v85,v86,v87,v88,v89,v90,v91,v92,v93,v94,v95,v96,v97,v98,v99,v2s,v2t,v2u,v2v,v2w,v2x,v2y,v2z,v108,v109,v110,v111,v112,v113,v114,v115,v116,v117,v3a,v3b,v3c,v3d,v3e,v3f,v3g,v3h,v3i,v3j,v3k,v3l,.int .i64 z0,v3n,v3o,v3p,v3q,v3r,v3s,v3t,v3u,v3v,v3w,v3x,v3y,v3z,v144,v145,v146,v147,v148,v149,v150,v151,v152,v153,v4a,v4b,v4c,v4d,v4e,v4f,v4g,v4h,v4i,v4j,v4k,v4l,v4m,v4n,v4o,v4p,v4q,v4r,v4s,v4t,v4u,v4v,v4w,v4x,v4y,v4z,v180,v181,v182,v183,v184,v185,v186,v187,v188,v189,v5a,v5b,v5c,v5d,v5e,v5f,v5g,v5h,v5i,v5j,v5k,v5l,v5m,v5n,v5o,v5p,v5q,v5r,v5s,v5t,v5u,v5v,v5w,v5x,v5y,v5z,v216,v217,v218,v219,v220,v221,v222,v223,v224,v225,v6a,v6b,v6c,v6d,v6e,v6f,v6g,v6h,v6i,v6j,v6k,v6l,v6m,v6n,v6o,v6p,v6q,v6r,v6s,v6t,v6u,v6v,v6w,v6x,v6y,v6z,v252,v253,v254,v255,v256,v257,v258,v259,v260,v261,v7a,v7b,v7c,v7d,v7e,v7f,v7g,v7h,v7i,v7j,v7k,v7l,v7m,v7n,v7o,v7p,v7q,v7r,v7s,v7t,v7u,v7v,v7w,v7x,v7y,v7z,v288,v289,v290,v291,v292,v293,v294,v295,v296,v297,v8a,v8b,v8c,v8d,v8e,v8f,v8g,v8h,v8i,v8j,v8k,v8l,v8m],defers:=[] } W0:=by
 subst hC
 conv =>
  arg 2
  unfold tpBlk
  unfold Tryz.f3
  simp only [Option.getD_some,blkAt]
 conv =>
  arg 4
  zeta
 try simp (maxSteps:=10000000) only at hK
 have HK:=hidE hK
 clear hK
 rcases hz0 with rfl|rfl
 all_goals
  obtain ⟨va,hv,hne⟩:=HT.out.lr
  have q1:=lbegin_any M u va k s (.slice a l c) 1 z3 W0 hv HN.out.len.2 hne (HBY.out W0 HT.out.bel)
  obtain ⟨z,hz⟩:∃ z,tbE u k s 1 z3=z:=⟨_,rfl⟩
  obtain ⟨X,hX⟩:∃ X,tbF u k s 1 z3=X:=⟨_,rfl⟩
  rw [hz,hX] at q1
  have HZ:Hid (tbE t k s 1 z3=z∧tbF t k s 1 z3=X):=⟨by rw [← hz];exact HN.out.tw.tbE _ _ _ _,by rw [← hX];exact HN.out.tw.tbF _ _ _ _⟩
  unfold keyV segV flV at q1
  clear hz hX
  obtain ⟨k0,k1,k2,k3,k4⟩:=(HKY.out).cells
  obtain ⟨g0,g1,g2,g3,g4,g5,g6⟩:=(HSG.out).cells
  go_upto_region 37 with (go_at_call 7;go_must ((with_reducible refine q1.mono ?_);rintro e' W1 ⟨rfl,n1,g9⟩))
  obtain ⟨T1,K1⟩:=HT.out.setM HO.out hv n1 g9
  have b2:Below W1.heap.size W1 (W1.alloc (.cells #[.int .i64 X.key.kind,.int .i64 X.key.src,.int .i64 X.key.frm,.int .i64 X.key.dst,.int .i64 X.key.too,.int .i64 X.st,.int .i64 X.unt,.int .i64 X.stp,.int .i64 X.h0,.int .i64 X.h1,.int .i64 X.w0,.int .i64 X.w1,.bool X.d0,.bool X.d1,.int .i64 X.num] 45)):=(Below.refl _ _).alloc (Nat.le_refl _) _
  have p2:=FlAt.new W1 X
  obtain ⟨Y1,hY1⟩:∃ Y1,W1.heap.size=Y1:=⟨_,rfl⟩
  obtain ⟨W2,hW2⟩:∃ W2,W1.alloc (.cells #[.int .i64 X.key.kind,.int .i64 X.key.src,.int .i64 X.key.frm,.int .i64 X.key.dst,.int .i64 X.key.too,.int .i64 X.st,.int .i64 X.unt,.int .i64 X.stp,.int .i64 X.h0,.int .i64 X.h1,.int .i64 X.w0,.int .i64 X.w1,.bool X.d0,.bool X.d1,.int .i64 X.num] 45)=W2:=⟨_,rfl⟩
  rw [hW2] at b2 p2 ⊢
  have T2:=T1.below b2
  have K2:=K1.trans (Kp.below b2)
  rw [hY1] at p2 ⊢
  have HT2:=hidE T2
  have HP2:=hidE p2
  have HKY2:=hidE (K2.ky HKY.out)
  have HSG2:=hidE (K2.sg HSG.out)
  obtain ⟨m,hm,hb⟩:=T2.tb
  have q2:=tbegin_at A m t k s (.slice a l c) 1 z3 W2 hb HN.out.ok HKO.out (HBY.out W2 HT2.out.bel) (HL.out W2 HT2.out.bel)
  rw [HZ.out.1,HZ.out.2] at q2
  unfold keyV segV flV at q2
  clear k0 k1 k2 k3 k4 g0 g1 g2 g3 g4 g5 g6 q1 T1 K1 T2 K2 b2 p2 hW2 hY1 n1 g9 hv hne
  obtain ⟨k0,k1,k2,k3,k4⟩:=(HKY2.out).cells
  obtain ⟨g0,g1,g2,g3,g4,g5,g6⟩:=(HSG2.out).cells
  generalize hev:errV z=ev at q2
  have HEV:=hidE hev
  clear hev
  go_upto_region 38 with (go_at_call 8;go_must ((with_reducible refine q2.mono ?_);rintro e' W3 ⟨rfl,n3,g9⟩))
  obtain ⟨T3,K3⟩:=HT2.out.setA HO.out hm hb n3 g9
  have b4:Below W3.heap.size W3 (W3.alloc (.cells #[.int .i64 X.key.kind,.int .i64 X.key.src,.int .i64 X.key.frm,.int .i64 X.key.dst,.int .i64 X.key.too,.int .i64 X.st,.int .i64 X.unt,.int .i64 X.stp,.int .i64 X.h0,.int .i64 X.h1,.int .i64 X.w0,.int .i64 X.w1,.bool X.d0,.bool X.d1,.int .i64 X.num] 45)):=(Below.refl _ _).alloc (Nat.le_refl _) _
  have p4:=FlAt.new W3 X
  obtain ⟨Y3,hY3⟩:∃ Y3,W3.heap.size=Y3:=⟨_,rfl⟩
  obtain ⟨W4,hW4⟩:∃ W4,W3.alloc (.cells #[.int .i64 X.key.kind,.int .i64 X.key.src,.int .i64 X.key.frm,.int .i64 X.key.dst,.int .i64 X.key.too,.int .i64 X.st,.int .i64 X.unt,.int .i64 X.stp,.int .i64 X.h0,.int .i64 X.h1,.int .i64 X.w0,.int .i64 X.w1,.bool X.d0,.bool X.d1,.int .i64 X.num] 45)=W4:=⟨_,rfl⟩
  rw [hW4] at b4 p4 ⊢
  have T4:=T3.below b4
  have K4:=K3.trans (Kp.below b4)
  rw [hY3] at p4 ⊢
  have q3:=tp_same z W4 (HE.out W4 T4.bel)
  rw [HEV.out] at q3
  have HT4:=hidE T4
  have HP4:=hidE p4
  have HQ4:=hidE (K4.fl HP2.out)
  have HKY4:=hidE (K4.ky HKY2.out)
  clear k0 k1 k2 k3 k4 g0 g1 g2 g3 g4 g5 g6 q2 T3 K3 T4 K4 b4 p4 hW4 hY3 n3 g9 hm hb
  go_upto_region 39 with (go_at_call 5;go_must ((with_reducible refine q3.mono ?_);rintro e' W5 ⟨rfl,b5⟩))
  have HT5:=hidE (HT4.out.below b5)
  have HKY5:=hidE ((Kp.below b5).ky HKY4.out)
  obtain ⟨d0,d1,d2,d3,d4,d5,d6,d7,d8,d9,d10,d11,d12,d13,d14⟩:=((Kp.below b5).fl HP4.out).cells
  obtain ⟨e0,e1,e2,e3,e4,e5,e6,e7,e8,e9,e10,e11,e12,e13,e14⟩:=((Kp.below b5).fl HQ4.out).cells
  have hfe:=fun w=>Tryz.flEql X w
  have hfg:=Tryz.flGuard
  clear b5 q3
  go_wp2_with fail
  exact HK.out _ _ _ _ _ _ _ _ _ _ _ _ _ _ _ _ _ _ _ _ _ _ _ _ _ _ _ _ _ _ _ _ _ _ _ _ _ _ _ _ _ _ _ _ _ _ _ _ _ _ _ _ _ _ _ _ _ _ _ _ _ _ _ _ _ _ _ _ _ _ _ _ _ _ _ _ _ _ _ _ _ _ _ _ _ _ _ _ _ _ _ _ _ _ _ _ _ _ _ _ _ _ _ _ _ _ _ _ _ _ _ _ _ _ _ _ _ _ _ _ _ _ _ _ _ _ _ _ _ _ _ _ _ _ _ _ _ _ _ _ _ _ _ _ _ _ _ _ _ _ _ _ _ ⟨_,_,HT5.out,HN.out.begun k s 1 z3⟩ ⟨k,HKO.out,HKY5.out⟩
end Go.Proofs.YtkhheooofcpfdaaGreatDoor
namespace Go.Proofs.YtkhheooofcpfdaaGreatDoor
open Go.RowKit Go.Maps
set_option linter.unusedVariables false
set_option maxRecDepth 100000 in
set_option maxHeartbeats 32000000 in
theorem tp_drp (w W0:World) (A M V KB SB l c fl fc:Nat) (a fa:Option Addr) (t u:Tb) (k:Ky) (s:Sg) (fs:List Fl) (z1 z2 z3:Int) (K:Act→World→Prop) (E:Exit→Act→World→Prop) (C:Code) (hC:C=tpBlk 4)
  (HO:Hid (TpO w A M)) (HT:Hid (TpT w A M t u W0)) (HN:Hid (TpN t u)) (HV:Hid (V4At W0 V 6 z1 z2 z3)) (HVL:Hid (w.heap.size≤V)) (HKY:Hid (KyAt W0 KB k)) (HKL:Hid (w.heap.size≤KB)) (HKO:Hid (KyOk k)) (HSG:Hid (SgAt W0 SB s (.slice a l c)))
  (HBY:Hid (∀ W,Below w.heap.size w W→Bytes W (.slice a l c) s.body)) (HFS:Hid (Fls w (.slice fa fl fc) fs)) (HE:Hid (∀ W,Below w.heap.size w W→ErrLaid W)) (HL:Hid (∀ W,Below w.heap.size w W→Lives W))
  (v0 v1 v3 v4 v5 v6 v7 v8 v10 v11 v12 v14 v16 v20 v21 v22 v23 v24 v25 v26 v27 v28 v29 v30 v31 v32 v33 v34 v35 v36 v37 v38 v39 v40 v41 v42 v43 v44 v45 v46 v47 v48 v49 v50 v51 v52 v53 v54 v55 v56 v57 v58 v59 v60 v61 v62 v63 v64 v65 v66 v67 v68 v69 v70 v71 v72 v73 v74 v75 v76 v77 v78 v79 v80 v81 v82 v83 v84 v85 v86 v87 v88 v89 v90 v91 v92 v93 v94 v95 v96 v97 v98 v99 v2s v2t v2u v2v v2w v2x v2y v2z v108 v109 v110 v111 v112 v113 v114 v115 v116 v117 v3a v3b v3c v3d v3e v3f v3g v3h v3i v3j v3k v3l v3n v3o v3p v3q v3r v3s v3t v3u v3v v3w v3x v3y v3z v144 v145 v146 v147 v148 v149 v150 v151 v152 v153 v4a v4b v4c v4d v4e v4f v4g v4h v4i v4j v4k v4l v4m v4n v4o v4p v4q v4r v4s v4t v4u v4v v4w v4x v4y v4z v180 v181 v182 v183 v184 v185 v186 v187 v188 v189 v5a v5b v5c v5d v5e v5f v5g v5h v5i v5j v5k v5l v5m v5n v5o v5p v5q v5r v5s v5t v5u v5v v5w v5x v5y v5z v216 v217 v218 v219 v220 v221 v222 v223 v224 v225 v6a v6b v6c v6d v6e v6f v6g v6h v6i v6j v6k v6l v6m v6n v6o v6p v6q v6r v6s v6t v6u v6v v6w v6x v6y v6z v252 v253 v254 v255 v256 v257 v258 v259 v260 v261 v7a v7b v7c v7d v7e v7f v7g v7h v7i v7j v7k v7l v7m v7n v7o v7p v7q v7r v7s v7t v7u v7v v7w v7x v7y v7z v288 v289 v290 v291 v292 v293 v294 v295 v296 v297 v8a v8b v8c v8d v8e v8f v8g v8h v8i v8j v8k v8l v8m:Value)
  (hK:∀ (W9:World) (u20 u21 u22 u23 u24 u25 u26 u27 u28 u29 u30 u31 u32 u33 u34 u35 u36 u37 u3n u3o u3p u3q u3r u3s u3t u3u u3v u3w u3x u3y u3z u40 u41 u42 u43 u44 u45 u46 u47 u48 u49 u4a u4b u4c u4d u4e u4f u4g u4h u4i u4j u4k u4l u4m u4n u4o u4p u4q u4r u4s u4t u4u u4v u4w u4x u4y u4z u50 u51 u52 u53 u54 u55 u56 u57 u58 u59 u5a u5b u5c u5d u5e u5f u5g u5h u5i u5j u5k u5l u5m u5n u5o u5p u5q u5r u5s u5t u5u u5v u5w u5x u5y u5z u60 u61 u62 u63 u64 u65 u66 u67 u68 u69 u6a u6b u6c u6d u6e u6f u6g u6h u6i u6j u6k u6l u6m u6n u6o u6p u6q u6r u6s u6t u6u u6v u6w u6x u6y u6z u70 u71 u72 u73 u74 u75 u76 u77 u78 u79 u7a u7b u7c:Value),TpS w A M W9→(∃ k',KyOk k'∧KyAt W9 KB k')→K { tmps:=#[v0,v1,.slice fa fl fc,v3,v4,v5,v6,v7,v8,.pointer (some ⟨A,0,none⟩),v10,v11,.bool true,.pointer (some ⟨M,0,none⟩),v14,.pointer (some ⟨V,0,none⟩),v16,.pointer (some ⟨KB,0,none⟩),.pointer (some ⟨SB,0,none⟩),.int .i64 z3,u20,u21,u22,u23,u24,u25,u26,u27,u28,u29,u30,u31,u32,u33,u34,u35,u36,u37,v38,v39,v40,v41,v42,v43,v44,v45,v46,v47,v48,v49,v50,v51,v52,v53,v54,v55,v56,v57,v58,v59,v60,v61,v62,v63,v64,v65,v66,v67,v68,v69,v70,v71,v72,v73,v74,v75,v76,v77,v78,v79,v80,v81,v82,v83,v84,v85,v86,v87,v88,v89,v90,v91,v92,v93,v94,v95,v96,v97,v98,v99,v2s,v2t,v2u,v2v,v2w,v2x,v2y,v2z,v108,v109,v110,v111,v112,v113,v114,v115,v116,v117,v3a,v3b,v3c,v3d,v3e,v3f,v3g,v3h,v3i,v3j,v3k,v3l,.int .i64 6,u3n,u3o,u3p,u3q,u3r,u3s,u3t,u3u,u3v,u3w,u3x,u3y,u3z,u40,u41,u42,u43,u44,u45,u46,u47,u48,u49,u4a,u4b,u4c,u4d,u4e,u4f,u4g,u4h,u4i,u4j,u4k,u4l,u4m,u4n,u4o,u4p,u4q,u4r,u4s,u4t,u4u,u4v,u4w,u4x,u4y,u4z,u50,u51,u52,u53,u54,u55,u56,u57,u58,u59,u5a,u5b,u5c,u5d,u5e,u5f,u5g,u5h,u5i,u5j,u5k,u5l,u5m,u5n,u5o,u5p,u5q,u5r,u5s,u5t,u5u,u5v,u5w,u5x,u5y,u5z,u60,u61,u62,u63,u64,u65,u66,u67,u68,u69,u6a,u6b,u6c,u6d,u6e,u6f,u6g,u6h,u6i,u6j,u6k,u6l,u6m,u6n,u6o,u6p,u6q,u6r,u6s,u6t,u6u,u6v,u6w,u6x,u6y,u6z,u70,u71,u72,u73,u74,u75,u76,u77,u78,u79,u7a,u7b,u7c,v7d,v7e,v7f,v7g,v7h,v7i,v7j,v7k,v7l,v7m,v7n,v7o,v7p,v7q,v7r,v7s,v7t,v7u,v7v,v7w,v7x,v7y,v7z,v288,v289,v290,v291,v292,v293,v294,v295,v296,v297,v8a,v8b,v8c,v8d,v8e,v8f,v8g,v8h,v8i,v8j,v8k,v8l,v8m],defers:=[] } W9) :
  Code.wp Tryz.prog C (Exit.then K E) { tmps:=#[v0,v1,.slice fa fl fc,v3,v4,v5,v6,v7,v8,.pointer (some ⟨A,0,none⟩),v10,v11,v12,.pointer (some ⟨M,0,none⟩),v14,.pointer (some ⟨V,0,none⟩),v16,.pointer (some ⟨KB,0,none⟩),.pointer (some ⟨SB,0,none⟩),.int .i64 z3,v20,v21,v22,v23,v24,v25,v26,v27,v28,v29,v30,v31,v32,v33,v34,v35,v36,v37,v38,v39,v40,v41,v42,v43,v44,v45,v46,v47,v48,v49,v50,v51,v52,v53,v54,v55,v56,v57,v58,v59,v60,v61,v62,v63,v64,v65,v66,v67,v68,v69,v70,v71,v72,v73,v74,v75,v76,v77,v78,v79,v80,v81,v82,v83,v84,v85,v86,v87,v88,v89,v90,v91,v92,v93,v94,v95,v96,v97,v98,v99,v2s,v2t,v2u,v2v,v2w,v2x,v2y,v2z,v108,v109,v110,v111,v112,v113,v114,v115,v116,v117,v3a,v3b,v3c,v3d,v3e,v3f,v3g,v3h,v3i,v3j,v3k,v3l,.int .i64 6,v3n,v3o,v3p,v3q,v3r,v3s,v3t,v3u,v3v,v3w,v3x,v3y,v3z,v144,v145,v146,v147,v148,v149,v150,v151,v152,v153,v4a,v4b,v4c,v4d,v4e,v4f,v4g,v4h,v4i,v4j,v4k,v4l,v4m,v4n,v4o,v4p,v4q,v4r,v4s,v4t,v4u,v4v,v4w,v4x,v4y,v4z,v180,v181,v182,v183,v184,v185,v186,v187,v188,v189,v5a,v5b,v5c,v5d,v5e,v5f,v5g,v5h,v5i,v5j,v5k,v5l,v5m,v5n,v5o,v5p,v5q,v5r,v5s,v5t,v5u,v5v,v5w,v5x,v5y,v5z,v216,v217,v218,v219,v220,v221,v222,v223,v224,v225,v6a,v6b,v6c,v6d,v6e,v6f,v6g,v6h,v6i,v6j,v6k,v6l,v6m,v6n,v6o,v6p,v6q,v6r,v6s,v6t,v6u,v6v,v6w,v6x,v6y,v6z,v252,v253,v254,v255,v256,v257,v258,v259,v260,v261,v7a,v7b,v7c,v7d,v7e,v7f,v7g,v7h,v7i,v7j,v7k,v7l,v7m,v7n,v7o,v7p,v7q,v7r,v7s,v7t,v7u,v7v,v7w,v7x,v7y,v7z,v288,v289,v290,v291,v292,v293,v294,v295,v296,v297,v8a,v8b,v8c,v8d,v8e,v8f,v8g,v8h,v8i,v8j,v8k,v8l,v8m],defers:=[] } W0:=by
 subst hC
 conv =>
  arg 2
  unfold tpBlk
  unfold Tryz.f3
  simp only [Option.getD_some,blkAt]
 conv =>
  arg 4
  zeta
 try simp (maxSteps:=10000000) only at hK
 have HK:=hidE hK
 clear hK
 refine wp_mono (Q:=Exit.then K fun _ _ _=>False) ?_ (then_of K E)
 obtain ⟨m,hm,hb⟩:=HT.out.tb
 have q1:=drop_any A m t k W0.drew ⟨hb.tab,hb.map.block rfl,hb.oks⟩ HKO.out
 obtain ⟨x,hx⟩:∃ x,hasK t.fs k=x:=⟨_,rfl⟩
 have HX:Hid (hasK u.fs k=x):=by show _=_;rw [← hx];exact (HN.out.tw.hasN k).symm
 rw [hx] at q1
 have HKC:Hid (∀ W,KyAt W KB k→W.cell? ⟨KB,0,none⟩=some (.int .i64 k.kind)∧W.cell? ⟨KB,1,none⟩=some (.int .i64 k.src)∧W.cell? ⟨KB,2,none⟩=some (.int .i64 k.frm)∧W.cell? ⟨KB,3,none⟩=some (.int .i64 k.dst)∧W.cell? ⟨KB,4,none⟩=some (.int .i64 k.too)):=fun W h=>h.cells
 have hS0:=HKC.out W0 HKY.out
 have HDR:Hid (∀ W1,TbAt W1 A m { t with fs:=dropK t.fs k }→W0.drew.grownBy W1 (some m)→TpT w A M { t with fs:=dropK t.fs k } u W1∧Kp W0 W1):=fun W1 h1 h2=>HT.out.drop hm hb h1 ⟨h2.os,h2.tape,h2.output,h2.size,h2.block⟩
 have HLD:Hid (∀ W1,TpT w A M { t with fs:=dropK t.fs k } u W1→Calls Tryz.prog 15 #[.pointer (some ⟨M,0,none⟩),.agg #[.int .i64 k.kind,.int .i64 k.src,.int .i64 k.frm,.int .i64 k.dst,.int .i64 k.too]] W1 fun e w'=>e = .returned (.bool x)∧TpT w A M { t with fs:=dropK t.fs k } { u with fs:=dropK u.fs k } w'∧Kp W1 w'):=fun W1 h1=>by
  obtain ⟨va,hv,hne⟩:=h1.lr
  have:=ldrop_any M u va k W1 hv HN.out.len.2 HN.out.tw.so.apart hne
  rw [HX.out] at this
  refine this.mono ?_
  rintro e w' ⟨rfl,h2,h3⟩
  exact ⟨rfl,h1.setM HO.out hv h2 h3⟩
 unfold keyV at q1
 clear hx hm hb
 go_upto_region 58 with fail
 go_region_held3 (fun X9=>X9.cell? ⟨KB,0,none⟩=some (.int .i64 k.kind)∧X9.cell? ⟨KB,1,none⟩=some (.int .i64 k.src)∧X9.cell? ⟨KB,2,none⟩=some (.int .i64 k.frm)∧X9.cell? ⟨KB,3,none⟩=some (.int .i64 k.dst)∧X9.cell? ⟨KB,4,none⟩=some (.int .i64 k.too)) (with_reducible first|assumption|exact hS0|go_keep) (first
  | (go_at_call 14;go_must ((with_reducible refine q1.mono ?_);rintro e' W1 ⟨rfl,h1,g1⟩;obtain ⟨T1,K1⟩:=HDR.out W1 h1 g1;have hS1:=HKC.out W1 (K1.ky HKY.out);have HT1:=hidE T1;have HK1:=hidE (K1.ky HKY.out);clear h1 g1 T1 K1))
  | (go_at_call 15;go_must (refine (HLD.out W1 HT1.out).mono ?_;rintro e' W2 ⟨rfl,T2,K2⟩;have hS2:=HKC.out W2 (K2.ky HK1.out);have HT2:=hidE T2;have HK2:=hidE (K2.ky HK1.out);clear T2 K2)))
 cases x
 all_goals
  go_wp2_with fail
  exact HK.out _ _ _ _ _ _ _ _ _ _ _ _ _ _ _ _ _ _ _ _ _ _ _ _ _ _ _ _ _ _ _ _ _ _ _ _ _ _ _ _ _ _ _ _ _ _ _ _ _ _ _ _ _ _ _ _ _ _ _ _ _ _ _ _ _ _ _ _ _ _ _ _ _ _ _ _ _ _ _ _ _ _ _ _ _ _ _ _ _ _ _ _ _ _ _ _ _ _ _ _ _ _ _ _ _ _ _ _ _ _ _ _ _ _ _ _ _ _ _ _ _ _ _ _ _ _ _ _ _ _ _ _ _ _ _ _ _ _ _ _ _ _ _ _ _ _ _ _ _ _ _ _ _ ⟨_,_,HT2.out,HN.out.dropped k⟩ ⟨k,HKO.out,HK2.out⟩
end Go.Proofs.YtkhheooofcpfdaaGreatDoor
namespace Go.Proofs.YtkhheooofcpfdaaGreatDoor
open Go.RowKit Go.Maps
set_option linter.unusedVariables false
set_option maxRecDepth 100000 in
set_option maxHeartbeats 32000000 in
theorem tp_tik (w W0:World) (A M V KB SB l c fl fc:Nat) (a fa:Option Addr) (t u:Tb) (k:Ky) (s:Sg) (fs:List Fl) (z0 z1 z2 z3:Int) (K:Act→World→Prop) (E:Exit→Act→World→Prop) (C:Code) (hC:C=tpBlk 4)
  (HO:Hid (TpO w A M)) (HT:Hid (TpT w A M t u W0)) (HN:Hid (TpN t u)) (HV:Hid (V4At W0 V z0 z1 z2 z3)) (HVL:Hid (w.heap.size≤V)) (HKY:Hid (KyAt W0 KB k)) (HKL:Hid (w.heap.size≤KB)) (HKO:Hid (KyOk k)) (HSG:Hid (SgAt W0 SB s (.slice a l c)))
  (HBY:Hid (∀ W,Below w.heap.size w W→Bytes W (.slice a l c) s.body)) (HFS:Hid (Fls w (.slice fa fl fc) fs)) (HE:Hid (∀ W,Below w.heap.size w W→ErrLaid W)) (HL:Hid (∀ W,Below w.heap.size w W→Lives W)) (e0:(z0 == 0)=false) (e1:(z0 == 1)=false) (e2:(z0 == 2)=false) (e3:(z0 == 3)=false) (e4:(z0 == 4)=false) (e5:(z0 == 5)=false) (e6:(z0 == 6)=false)
  (v0 v1 v3 v4 v5 v6 v7 v8 v10 v11 v12 v14 v16 v20 v21 v22 v23 v24 v25 v26 v27 v28 v29 v30 v31 v32 v33 v34 v35 v36 v37 v38 v39 v40 v41 v42 v43 v44 v45 v46 v47 v48 v49 v50 v51 v52 v53 v54 v55 v56 v57 v58 v59 v60 v61 v62 v63 v64 v65 v66 v67 v68 v69 v70 v71 v72 v73 v74 v75 v76 v77 v78 v79 v80 v81 v82 v83 v84 v85 v86 v87 v88 v89 v90 v91 v92 v93 v94 v95 v96 v97 v98 v99 v2s v2t v2u v2v v2w v2x v2y v2z v108 v109 v110 v111 v112 v113 v114 v115 v116 v117 v3a v3b v3c v3d v3e v3f v3g v3h v3i v3j v3k v3l v3n v3o v3p v3q v3r v3s v3t v3u v3v v3w v3x v3y v3z v144 v145 v146 v147 v148 v149 v150 v151 v152 v153 v4a v4b v4c v4d v4e v4f v4g v4h v4i v4j v4k v4l v4m v4n v4o v4p v4q v4r v4s v4t v4u v4v v4w v4x v4y v4z v180 v181 v182 v183 v184 v185 v186 v187 v188 v189 v5a v5b v5c v5d v5e v5f v5g v5h v5i v5j v5k v5l v5m v5n v5o v5p v5q v5r v5s v5t v5u v5v v5w v5x v5y v5z v216 v217 v218 v219 v220 v221 v222 v223 v224 v225 v6a v6b v6c v6d v6e v6f v6g v6h v6i v6j v6k v6l v6m v6n v6o v6p v6q v6r v6s v6t v6u v6v v6w v6x v6y v6z v252 v253 v254 v255 v256 v257 v258 v259 v260 v261 v7a v7b v7c v7d v7e v7f v7g v7h v7i v7j v7k v7l v7m v7n v7o v7p v7q v7r v7s v7t v7u v7v v7w v7x v7y v7z v288 v289 v290 v291 v292 v293 v294 v295 v296 v297 v8a v8b v8c v8d v8e v8f v8g v8h v8i v8j v8k v8l v8m:Value)
  (hK:∀ (W9:World) (u20 u21 u22 u23 u24 u25 u26 u27 u28 u29 u30 u31 u32 u33 u34 u35 u36 u37 u3n u3o u3p u3q u3r u3s u3t u3u u3v u3w u3x u3y u3z u40 u41 u42 u43 u44 u45 u46 u47 u48 u49 u4a u4b u4c u4d u4e u4f u4g u4h u4i u4j u4k u4l u4m u4n u4o u4p u4q u4r u4s u4t u4u u4v u4w u4x u4y u4z u50 u51 u52 u53 u54 u55 u56 u57 u58 u59 u5a u5b u5c u5d u5e u5f u5g u5h u5i u5j u5k u5l u5m u5n u5o u5p u5q u5r u5s u5t u5u u5v u5w u5x u5y u5z u60 u61 u62 u63 u64 u65 u66 u67 u68 u69 u6a u6b u6c u6d u6e u6f u6g u6h u6i u6j u6k u6l u6m u6n u6o u6p u6q u6r u6s u6t u6u u6v u6w u6x u6y u6z u70 u71 u72 u73 u74 u75 u76 u77 u78 u79 u7a u7b u7c:Value),TpS w A M W9→(∃ k',KyOk k'∧KyAt W9 KB k')→K { tmps:=#[v0,v1,.slice fa fl fc,v3,v4,v5,v6,v7,v8,.pointer (some ⟨A,0,none⟩),v10,v11,.bool true,.pointer (some ⟨M,0,none⟩),v14,.pointer (some ⟨V,0,none⟩),v16,.pointer (some ⟨KB,0,none⟩),.pointer (some ⟨SB,0,none⟩),.int .i64 z3,u20,u21,u22,u23,u24,u25,u26,u27,u28,u29,u30,u31,u32,u33,u34,u35,u36,u37,v38,v39,v40,v41,v42,v43,v44,v45,v46,v47,v48,v49,v50,v51,v52,v53,v54,v55,v56,v57,v58,v59,v60,v61,v62,v63,v64,v65,v66,v67,v68,v69,v70,v71,v72,v73,v74,v75,v76,v77,v78,v79,v80,v81,v82,v83,v84,v85,v86,v87,v88,v89,v90,v91,v92,v93,v94,v95,v96,v97,v98,v99,v2s,v2t,v2u,v2v,v2w,v2x,v2y,v2z,v108,v109,v110,v111,v112,v113,v114,v115,v116,v117,v3a,v3b,v3c,v3d,v3e,v3f,v3g,v3h,v3i,v3j,v3k,v3l,.int .i64 z0,u3n,u3o,u3p,u3q,u3r,u3s,u3t,u3u,u3v,u3w,u3x,u3y,u3z,u40,u41,u42,u43,u44,u45,u46,u47,u48,u49,u4a,u4b,u4c,u4d,u4e,u4f,u4g,u4h,u4i,u4j,u4k,u4l,u4m,u4n,u4o,u4p,u4q,u4r,u4s,u4t,u4u,u4v,u4w,u4x,u4y,u4z,u50,u51,u52,u53,u54,u55,u56,u57,u58,u59,u5a,u5b,u5c,u5d,u5e,u5f,u5g,u5h,u5i,u5j,u5k,u5l,u5m,u5n,u5o,u5p,u5q,u5r,u5s,u5t,u5u,u5v,u5w,u5x,u5y,u5z,u60,u61,u62,u63,u64,u65,u66,u67,u68,u69,u6a,u6b,u6c,u6d,u6e,u6f,u6g,u6h,u6i,u6j,u6k,u6l,u6m,u6n,u6o,u6p,u6q,u6r,u6s,u6t,u6u,u6v,u6w,u6x,u6y,u6z,u70,u71,u72,u73,u74,u75,u76,u77,u78,u79,u7a,u7b,u7c,v7d,v7e,v7f,v7g,v7h,v7i,v7j,v7k,v7l,v7m,v7n,v7o,v7p,v7q,v7r,v7s,v7t,v7u,v7v,v7w,v7x,v7y,v7z,v288,v289,v290,v291,v292,v293,v294,v295,v296,v297,v8a,v8b,v8c,v8d,v8e,v8f,v8g,v8h,v8i,v8j,v8k,v8l,v8m],defers:=[] } W9) :
  Code.wp Tryz.prog C (Exit.then K E) { tmps:=#[v0,v1,.slice fa fl fc,v3,v4,v5,v6,v7,v8,.pointer (some ⟨A,0,none⟩),v10,v11,v12,.pointer (some ⟨M,0,none⟩),v14,.pointer (some ⟨V,0,none⟩),v16,.pointer (some ⟨KB,0,none⟩),.pointer (some ⟨SB,0,none⟩),.int .i64 z3,v20,v21,v22,v23,v24,v25,v26,v27,v28,v29,v30,v31,v32,v33,v34,v35,v36,v37,v38,v39,v40,v41,v42,v43,v44,v45,v46,v47,v48,v49,v50,v51,v52,v53,v54,v55,v56,v57,v58,v59,v60,v61,v62,v63,v64,v65,v66,v67,v68,v69,v70,v71,v72,v73,v74,v75,v76,v77,v78,v79,v80,v81,v82,v83,v84,v85,v86,v87,v88,v89,v90,v91,v92,v93,v94,v95,v96,v97,v98,v99,v2s,v2t,v2u,v2v,v2w,v2x,v2y,v2z,v108,v109,v110,v111,v112,v113,v114,v115,v116,v117,v3a,v3b,v3c,v3d,v3e,v3f,v3g,v3h,v3i,v3j,v3k,v3l,.int .i64 z0,v3n,v3o,v3p,v3q,v3r,v3s,v3t,v3u,v3v,v3w,v3x,v3y,v3z,v144,v145,v146,v147,v148,v149,v150,v151,v152,v153,v4a,v4b,v4c,v4d,v4e,v4f,v4g,v4h,v4i,v4j,v4k,v4l,v4m,v4n,v4o,v4p,v4q,v4r,v4s,v4t,v4u,v4v,v4w,v4x,v4y,v4z,v180,v181,v182,v183,v184,v185,v186,v187,v188,v189,v5a,v5b,v5c,v5d,v5e,v5f,v5g,v5h,v5i,v5j,v5k,v5l,v5m,v5n,v5o,v5p,v5q,v5r,v5s,v5t,v5u,v5v,v5w,v5x,v5y,v5z,v216,v217,v218,v219,v220,v221,v222,v223,v224,v225,v6a,v6b,v6c,v6d,v6e,v6f,v6g,v6h,v6i,v6j,v6k,v6l,v6m,v6n,v6o,v6p,v6q,v6r,v6s,v6t,v6u,v6v,v6w,v6x,v6y,v6z,v252,v253,v254,v255,v256,v257,v258,v259,v260,v261,v7a,v7b,v7c,v7d,v7e,v7f,v7g,v7h,v7i,v7j,v7k,v7l,v7m,v7n,v7o,v7p,v7q,v7r,v7s,v7t,v7u,v7v,v7w,v7x,v7y,v7z,v288,v289,v290,v291,v292,v293,v294,v295,v296,v297,v8a,v8b,v8c,v8d,v8e,v8f,v8g,v8h,v8i,v8j,v8k,v8l,v8m],defers:=[] } W0:=by
 subst hC
 conv =>
  arg 2
  unfold tpBlk
  unfold Tryz.f3
  simp only [Option.getD_some,blkAt]
 conv =>
  arg 4
  zeta
 try simp (maxSteps:=10000000) only at hK
 have HK:=hidE hK
 clear hK
 have HTM:Hid (timE t z3=timE u z3):=HN.out.tw.tim z3
 by_cases hz:timE u z3=0
 ·obtain ⟨va,hv,hne⟩:=HT.out.lr
  have q1:=ltick_ok M u va z3 W0 hv hz HN.out.len.2 hne
  have HZ:=hidE hz
  clear hz
  go_upto_region 30 with (go_at_call 16;go_must ((with_reducible refine q1.mono ?_);rintro e' W1 ⟨⟨xv,ks,rfl,hks,hke⟩,⟨v',hl1,hl2⟩,g1⟩))
  have hvn:v'.ownBlock≠some M:=fun e=>by
   have:=hl2 M e
   have:=hv.lt
   omega
  obtain ⟨T1,K1⟩:=HT.out.setM HO.out hv ⟨v',hl1,hvn⟩ g1
  have HT1:=hidE T1
  have HKY1:=hidE (K1.ky HKY.out)
  have HXK:Hid (Kys W1 xv ks∧ks=gonK z3 u.fs):=⟨kys_of_own hks,hke⟩
  have HXB:=hidE (fun q (hq:xv.ownBlock=some q)=>own_cells hks hq)
  have HXO:=hidE hks
  obtain ⟨m,hm,hb⟩:=T1.tb
  have q2:=tick_ok A m t z3 W1 hb (HTM.out.trans HZ.out) HN.out.tw.ap HN.out.len.1
  clear q1 T1 K1 hks hke hl1 hl2 hvn g1 hv hne
  go_upto_region 31 with (go_at_call 17;go_must ((with_reducible refine q2.mono ?_);rintro e' W2 ⟨yv,ys,rfl,hy1,hy2,hy3,hy4,g2⟩))
  obtain ⟨T2,K2⟩:=HT1.out.setA HO.out hm hb (by obtain ⟨m',p,q⟩:=hy4;exact ⟨m',.inr p,q⟩) g2
  have hye:ys=ks:=by rw [HXK.out.2];exact HN.out.tw.gon z3 hy2 hy3
  subst hye
  have HX2:Hid (Kys W2 xv ys):=kys_of_own (OwnN.blk HXO.out (fun q hq=>by obtain ⟨cs,hc⟩:=HXB.out q hq;rw [K2.bl _ _ _ _ hc (by decide) (by decide),hc]))
  have HY2:=hidE hy1
  have HT2:=hidE T2
  have HKY2:=hidE (K2.ky HKY1.out)
  have q3:=tp_same 0 W2 (HE.out W2 T2.bel)
  rw [errV_ok] at q3
  clear q2 hy1 hy2 hy3 hy4 g2 T2 K2 hm hb HXO HXB HXK
  go_upto_region 32 with (go_at_call 5;go_must ((with_reducible refine q3.mono ?_);rintro e' W5 ⟨rfl,b5⟩))
  have q4:=sameKys yv xv ys W5 (HY2.out.below b5) (HX2.out.below b5)
  have HT5:=hidE (HT2.out.below b5)
  have HKY5:=hidE ((Kp.below b5).ky HKY2.out)
  clear q3 b5
  go_upto_region 33 with (go_at_call 18;go_must ((with_reducible refine q4.mono ?_);rintro e' W6 ⟨rfl,b6⟩))
  have HT6:=hidE (HT5.out.below b6)
  have HKY6:=hidE ((Kp.below b6).ky HKY5.out)
  clear q4 b6
  go_wp2_with fail
  exact HK.out _ _ _ _ _ _ _ _ _ _ _ _ _ _ _ _ _ _ _ _ _ _ _ _ _ _ _ _ _ _ _ _ _ _ _ _ _ _ _ _ _ _ _ _ _ _ _ _ _ _ _ _ _ _ _ _ _ _ _ _ _ _ _ _ _ _ _ _ _ _ _ _ _ _ _ _ _ _ _ _ _ _ _ _ _ _ _ _ _ _ _ _ _ _ _ _ _ _ _ _ _ _ _ _ _ _ _ _ _ _ _ _ _ _ _ _ _ _ _ _ _ _ _ _ _ _ _ _ _ _ _ _ _ _ _ _ _ _ _ _ _ _ _ _ _ _ _ _ _ _ _ _ _ ⟨_,_,HT6.out,HN.out.ticked (HTM.out.trans HZ.out)⟩ ⟨k,HKO.out,HKY6.out⟩
 ·obtain ⟨va,hv,hne⟩:=HT.out.lr
  obtain ⟨z,hzz⟩:∃ z,timE u z3=z:=⟨_,rfl⟩
  rw [hzz] at hz
  have q1:=ltick_bad M u va z3 z W0 hv hzz hz
  obtain ⟨m,hm,hb⟩:=HT.out.tb
  have q2:=tick_bad A m t z3 z W0 hb (HTM.out.trans hzz) hz
  rw [← errV_no hz] at q2
  have HEV:=hidE (fun W (h:Below w.heap.size w W)=>tp_same z W (HE.out W h))
  generalize errV z=ev at q2 HEV
  clear hz hzz hv hne hm hb HTM
  go_upto_region 30 with (go_at_call 16;go_must ((with_reducible refine q1.mono ?_);rintro e' W1 ⟨rfl,hw⟩;rw [hw];clear hw))
  clear q1
  go_upto_region 31 with (go_at_call 17;go_must ((with_reducible refine q2.mono ?_);rintro e' W2 ⟨rfl,b2⟩))
  have HT2:=hidE (HT.out.below b2)
  have HKY2:=hidE ((Kp.below b2).ky HKY.out)
  have q3:=HEV.out W2 HT2.out.bel
  clear q2 b2
  go_upto_region 32 with (go_at_call 5;go_must ((with_reducible refine q3.mono ?_);rintro e' W5 ⟨rfl,b5⟩))
  have q4:=sameKys (.slice none 0 0) (.slice none 0 0) [] W5 (.inl ⟨rfl,_,_,rfl⟩) (.inl ⟨rfl,_,_,rfl⟩)
  have HT5:=hidE (HT2.out.below b5)
  have HKY5:=hidE ((Kp.below b5).ky HKY2.out)
  clear q3 b5
  go_upto_region 33 with (go_at_call 18;go_must ((with_reducible refine q4.mono ?_);rintro e' W6 ⟨rfl,b6⟩))
  have HT6:=hidE (HT5.out.below b6)
  have HKY6:=hidE ((Kp.below b6).ky HKY5.out)
  clear q4 b6
  go_wp2_with fail
  exact HK.out _ _ _ _ _ _ _ _ _ _ _ _ _ _ _ _ _ _ _ _ _ _ _ _ _ _ _ _ _ _ _ _ _ _ _ _ _ _ _ _ _ _ _ _ _ _ _ _ _ _ _ _ _ _ _ _ _ _ _ _ _ _ _ _ _ _ _ _ _ _ _ _ _ _ _ _ _ _ _ _ _ _ _ _ _ _ _ _ _ _ _ _ _ _ _ _ _ _ _ _ _ _ _ _ _ _ _ _ _ _ _ _ _ _ _ _ _ _ _ _ _ _ _ _ _ _ _ _ _ _ _ _ _ _ _ _ _ _ _ _ _ _ _ _ _ _ _ _ _ _ _ _ _ ⟨_,_,HT6.out,HN.out⟩ ⟨k,HKO.out,HKY6.out⟩
end Go.Proofs.YtkhheooofcpfdaaGreatDoor
