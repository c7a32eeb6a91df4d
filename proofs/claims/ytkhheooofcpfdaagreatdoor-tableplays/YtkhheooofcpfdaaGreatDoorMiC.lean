/- TablePlays: the segment of a round. -/
import Derived.Test.YtkhheooofcpfdaaGreatDoorMiA
namespace Go.Proofs.YtkhheooofcpfdaaGreatDoor
open Go.RowKit Go.Maps
set_option linter.unusedVariables false
def isReg (n:Nat):Code→Bool
 | .region m _ _=>Nat.beq m n
 | _=>false
def seqAt (n:Nat):Code→Option Code
 | .seq a b=>match isReg n a with
  | true=>some (.seq a b)
  | false=>match seqAt n a with
   | some c=>some c
   | none=>seqAt n b
 | .loop a=>seqAt n a
 | .block _ a=>seqAt n a
 | .cond _ a b=>match seqAt n a with
  | some c=>some c
  | none=>seqAt n b
 | _=>none
noncomputable def tpSeq (n:Nat):Code:=(seqAt n (Tryz.f3.body.getD .skip)).getD .skip
set_option maxRecDepth 100000 in
set_option maxHeartbeats 32000000 in
theorem tp_seg (w W0:World) (V KB SB ll lc:Nat) (la:Option Addr) (k:Ky) (ss:List (Sg × Value)) (z0 z1 z2 z3:Int) (K:Act→World→Prop) (E:Exit→Act→World→Prop) (C:Code) (hC:C=tpSeq 19)
  (HB:Hid (Below w.heap.size w W0)) (HV:Hid (V4At W0 V z0 z1 z2 z3)) (HKY:Hid (KyAt W0 KB k)) (HSG:Hid (SgAt W0 SB zeroS (.slice none 0 0))) (HSS:Hid (Sgs w (.slice la ll lc) ss)) (hll:ll=ss.length)
  (v0 v1 v2 v4 v5 v6 v7 v8 v9 v10 v11 v12 v13 v14 v16 v19 v20 v21 v22 v23 v24 v25 v26 v27 v28 v29 v30 v31 v32 v33 v34 v35 v36 v37 v38 v39 v40 v41 v42 v43 v44 v45 v46 v47 v48 v49 v50 v51 v52 v53 v54 v55 v56 v57 v58 v59 v60 v61 v62 v63 v64 v65 v66 v67 v68 v69 v70 v71 v72 v73 v74 v75 v76 v77 v78 v79 v80 v81 v82 v83 v84 v85 v86 v87 v88 v89 v90 v91 v92 v93 v94 v95 v96 v97 v98 v99 v2s v2t v2u v2v v2w v2x v2y v2z v108 v109 v110 v111 v112 v113 v114 v115 v116 v117 v3a v3b v3c v3d v3e v3f v3g v3h v3i v3j v3k v3l v3m v3n v3o v3p v3q v3r v3s v3t v3u v3v v3w v3x v3y v3z v144 v145 v146 v147 v148 v149 v150 v151 v152 v153 v4a v4b v4c v4d v4e v4f v4g v4h v4i v4j v4k v4l v4m v4n v4o v4p v4q v4r v4s v4t v4u v4v v4w v4x v4y v4z v180 v181 v182 v183 v184 v185 v186 v187 v188 v189 v5a v5b v5c v5d v5e v5f v5g v5h v5i v5j v5k v5l v5m v5n v5o v5p v5q v5r v5s v5t v5u v5v v5w v5x v5y v5z v216 v217 v218 v219 v220 v221 v222 v223 v224 v225 v6a v6b v6c v6d v6e v6f v6g v6h v6i v6j v6k v6l v6m v6n v6o v6p v6q v6r v6s v6t v6u v6v v6w v6x v6y v6z v252 v253 v254 v255 v256 v257 v258 v259 v260 v261 v7a v7b v7c v7d v7e v7f v7g v7h v7i v7j v7k v7l v7m v7n v7o v7p v7q v7r v7s v7t v7u v7v v7w v7x v7y v7z v288 v289 v290 v291 v292 v293 v294 v295 v296 v297 v8a v8b v8c v8d v8e v8f v8g v8h v8i v8j v8k v8l v8m:Value)
  (hK:∀ (W9:World) (u2u u2v u2w u2x u2y u2z u30 u31 u32 u33 u34 u35 u36 u37 u116 u117 u3a u3b u3c u3d u3e u3f u3g u3h u3i:Value),(∃ s a l c,SgAt W9 SB s (.slice a l c)∧∀ W,Below w.heap.size w W→Bytes W (.slice a l c) s.body)→Only SB W0 W9→K { tmps:=#[v0,v1,v2,.slice la ll lc,v4,v5,v6,v7,v8,v9,v10,v11,v12,v13,v14,.pointer (some ⟨V,0,none⟩),v16,.pointer (some ⟨KB,0,none⟩),.pointer (some ⟨SB,0,none⟩),v19,v20,v21,v22,v23,v24,v25,v26,v27,v28,v29,v30,v31,v32,v33,v34,v35,v36,v37,v38,v39,v40,v41,v42,v43,v44,v45,v46,v47,v48,v49,v50,v51,v52,v53,v54,v55,v56,v57,v58,v59,v60,v61,v62,v63,v64,v65,v66,v67,v68,v69,v70,v71,v72,v73,v74,v75,v76,v77,v78,v79,v80,v81,v82,v83,v84,v85,v86,v87,v88,v89,v90,v91,v92,v93,v94,v95,v96,v97,v98,v99,v2s,v2t,u2u,u2v,u2w,u2x,u2y,u2z,u30,u31,u32,u33,u34,u35,u36,u37,u116,u117,u3a,u3b,u3c,u3d,u3e,u3f,u3g,u3h,u3i,v3j,v3k,v3l,v3m,v3n,v3o,v3p,v3q,v3r,v3s,v3t,v3u,v3v,v3w,v3x,v3y,v3z,v144,v145,v146,v147,v148,v149,v150,v151,v152,v153,v4a,v4b,v4c,v4d,v4e,v4f,v4g,v4h,v4i,v4j,v4k,v4l,v4m,v4n,v4o,v4p,v4q,v4r,v4s,v4t,v4u,v4v,v4w,v4x,v4y,v4z,v180,v181,v182,v183,v184,v185,v186,v187,v188,v189,v5a,v5b,v5c,v5d,v5e,v5f,v5g,v5h,v5i,v5j,v5k,v5l,v5m,v5n,v5o,v5p,v5q,v5r,v5s,v5t,v5u,v5v,v5w,v5x,v5y,v5z,v216,v217,v218,v219,v220,v221,v222,v223,v224,v225,v6a,v6b,v6c,v6d,v6e,v6f,v6g,v6h,v6i,v6j,v6k,v6l,v6m,v6n,v6o,v6p,v6q,v6r,v6s,v6t,v6u,v6v,v6w,v6x,v6y,v6z,v252,v253,v254,v255,v256,v257,v258,v259,v260,v261,v7a,v7b,v7c,v7d,v7e,v7f,v7g,v7h,v7i,v7j,v7k,v7l,v7m,v7n,v7o,v7p,v7q,v7r,v7s,v7t,v7u,v7v,v7w,v7x,v7y,v7z,v288,v289,v290,v291,v292,v293,v294,v295,v296,v297,v8a,v8b,v8c,v8d,v8e,v8f,v8g,v8h,v8i,v8j,v8k,v8l,v8m],defers:=[] } W9) :
  Code.wp Tryz.prog C (Exit.then K E) { tmps:=#[v0,v1,v2,.slice la ll lc,v4,v5,v6,v7,v8,v9,v10,v11,v12,v13,v14,.pointer (some ⟨V,0,none⟩),v16,.pointer (some ⟨KB,0,none⟩),.pointer (some ⟨SB,0,none⟩),v19,v20,v21,v22,v23,v24,v25,v26,v27,v28,v29,v30,v31,v32,v33,v34,v35,v36,v37,v38,v39,v40,v41,v42,v43,v44,v45,v46,v47,v48,v49,v50,v51,v52,v53,v54,v55,v56,v57,v58,v59,v60,v61,v62,v63,v64,v65,v66,v67,v68,v69,v70,v71,v72,v73,v74,v75,v76,v77,v78,v79,v80,v81,v82,v83,v84,v85,v86,v87,v88,v89,v90,v91,v92,v93,v94,v95,v96,v97,v98,v99,v2s,v2t,v2u,v2v,v2w,v2x,v2y,v2z,v108,v109,v110,v111,v112,v113,v114,v115,v116,v117,v3a,v3b,v3c,v3d,v3e,v3f,v3g,v3h,v3i,v3j,v3k,v3l,v3m,v3n,v3o,v3p,v3q,v3r,v3s,v3t,v3u,v3v,v3w,v3x,v3y,v3z,v144,v145,v146,v147,v148,v149,v150,v151,v152,v153,v4a,v4b,v4c,v4d,v4e,v4f,v4g,v4h,v4i,v4j,v4k,v4l,v4m,v4n,v4o,v4p,v4q,v4r,v4s,v4t,v4u,v4v,v4w,v4x,v4y,v4z,v180,v181,v182,v183,v184,v185,v186,v187,v188,v189,v5a,v5b,v5c,v5d,v5e,v5f,v5g,v5h,v5i,v5j,v5k,v5l,v5m,v5n,v5o,v5p,v5q,v5r,v5s,v5t,v5u,v5v,v5w,v5x,v5y,v5z,v216,v217,v218,v219,v220,v221,v222,v223,v224,v225,v6a,v6b,v6c,v6d,v6e,v6f,v6g,v6h,v6i,v6j,v6k,v6l,v6m,v6n,v6o,v6p,v6q,v6r,v6s,v6t,v6u,v6v,v6w,v6x,v6y,v6z,v252,v253,v254,v255,v256,v257,v258,v259,v260,v261,v7a,v7b,v7c,v7d,v7e,v7f,v7g,v7h,v7i,v7j,v7k,v7l,v7m,v7n,v7o,v7p,v7q,v7r,v7s,v7t,v7u,v7v,v7w,v7x,v7y,v7z,v288,v289,v290,v291,v292,v293,v294,v295,v296,v297,v8a,v8b,v8c,v8d,v8e,v8f,v8g,v8h,v8i,v8j,v8k,v8l,v8m],defers:=[] } W0:=by
 subst hC
 conv =>
  arg 2
  unfold tpSeq
  unfold Tryz.f3
  simp only [Option.getD_some,seqAt,isReg]
 conv =>
  arg 4
  zeta
 try simp (maxSteps:=10000000) only at hK
 have HK:=hidE hK
 clear hK
 have hSV:SB≠V:=cells_ne HSG.out HV.out (by decide)
 have hSK:SB≠KB:=cells_ne HSG.out HKY.out (by decide)
 obtain ⟨⟨_,_,c2,_⟩,_⟩:=v4_cells HV.out
 obtain ⟨k0,k1,k2,k3,k4⟩:=HKY.out.cells
 by_cases hin:0≤z2∧z2 < (ll:Int)
 ·obtain ⟨n,rfl⟩:=Int.eq_ofNat_of_zero_le hin.1
  have hn:n < ss.length:=by omega
  obtain ⟨fb,fo,hfa,hfc,hfm,hcl⟩:∃ fb fo,la=some ⟨fb,fo,none⟩∧ll≤lc∧lc≤9223372036854775807∧SgCells w fb (fo+n * 7) ss[n].1 ss[n].2:=by
   rcases HSS.out with ⟨rfl,_⟩|⟨fb,fo,len,cap,e,h1,h2,h3,h4⟩
   ·simp at hn
   ·simp only [Value.slice.injEq] at e
    obtain ⟨rfl,rfl,rfl⟩:=e
    unfold maxLen at h2
    exact ⟨fb,fo,rfl,h1,by omega,h4 n hn⟩
  subst hfa
  have j1:(0:Int)≤(n:Int):=by omega
  have j2:(n:Int) < (ll:Int):=by omega
  have hcl1:SgCells W0 fb (fo+n * 7) ss[n].1 ss[n].2:=hcl.below HB.out
  have HBY:Hid (∀ W,Below w.heap.size w W→Bytes W ss[n].2 ss[n].1.body):=fun W hW=>(hcl.below hW).2
  obtain ⟨s,hs⟩:∃ s,ss[n].1=s:=⟨_,rfl⟩
  obtain ⟨bv,hbv⟩:∃ bv,ss[n].2=bv:=⟨_,rfl⟩
  rw [hs,hbv] at hcl1 HBY
  obtain ⟨a,c,hbl⟩:=len_body hcl1.2
  obtain ⟨L,hL⟩:∃ L,s.body.length=L:=⟨_,rfl⟩
  rw [hL] at hbl
  subst hbl
  obtain ⟨⟨e0,e1,e2,e3,e4,e5,e6⟩,_⟩:=hcl1
  have y0:=HSG.out.free 0
  have y1:=HSG.out.free 1
  have y2:=HSG.out.free 2
  have y3:=HSG.out.free 3
  have y4:=HSG.out.free 4
  have y5:=HSG.out.free 5
  have y6:=HSG.out.free 6
  obtain ⟨g0,g1,g2,g3,g4,g5,g6⟩:=HSG.out.cells
  obtain ⟨W1,hW1,p1,o1⟩:=HSG.out.store s (.slice a L c)
  have HW1:=hidE hW1
  have HP1:=hidE p1
  have HO1:=hidE o1
  clear hcl hs hbv hL hn hin hW1 p1 o1 hll hSV hSK
  go_wp2_with fail
  rw [HW1.out]
  exact HK.out _ _ _ _ _ _ _ _ _ _ _ _ _ _ _ _ _ _ _ _ _ _ _ _ _ _ ⟨s,a,L,c,HP1.out,HBY.out⟩ HO1.out
 ·have y0:=HSG.out.free 0
  have y1:=HSG.out.free 1
  have y5:=HSG.out.free 5
  obtain ⟨g0,g1,g2,g3,g4,g5,g6⟩:=HSG.out.cells
  have HBY:Hid (∀ (s:Sg),s.body=[]→∀ W,Below w.heap.size w W→Bytes W (.slice none 0 0) s.body):=fun s h W _=>by rw [h];exact .inl ⟨rfl,_,_,rfl,fun _=>rfl⟩
  have HS7:Hid (∀ W',Only SB W0 W'→(∃ x y z:Int,W'.heap[SB]? = some (.cells #[.int .i64 x,.int .i64 y,.int .i64 0,.int .i64 0,.int .i64 0,.int .i64 z,.slice none 0 0] 41 (0,0)))→(∃ s a l c,SgAt W' SB s (.slice a l c)∧∀ W,Below w.heap.size w W→Bytes W (.slice a l c) s.body)∧Only SB W0 W'):=fun W' ho ⟨x,y,z,h⟩=>⟨⟨{ frm:=x,too:=y,seq:=0,ack:=0,win:=0,flg:=z,body:=[] },none,0,0,h,HBY.out _ rfl⟩,ho⟩
  have HSR:Hid (W0.heap[SB]? = some (.cells #[.int .i64 0,.int .i64 0,.int .i64 0,.int .i64 0,.int .i64 0,.int .i64 0,.slice none 0 0] 41 (0,0))):=HSG.out
  rcases (by omega:¬ (0:Int)≤z2∨((0:Int)≤z2∧¬ z2 < (ll:Int))) with j1|⟨j1,j2⟩
  all_goals
   clear hin hll HBY
   have hkk:k.kind=3∨k.kind=1∨((k.kind == 3)=false∧(k.kind == 1)=false):=by
    simp only [beq_eq_false_iff_ne,ne_eq]
    omega
   obtain ⟨kk,hkd⟩:∃ kk,k.kind=kk:=⟨_,rfl⟩
   rw [hkd] at k0 hkk
   clear hkd
   rcases hkk with rfl|rfl|⟨h3,h1⟩
   ·go_wp2_with fail
    have f9:=HS7.out (((W0.setCell ⟨SB,0,none⟩ (.int .i64 7)).setCell ⟨SB,1,none⟩ (.int .i64 7)).setCell ⟨SB,0,none⟩ (.int .i64 0)) ((((Only.refl _ _).setCell _ _).setCell _ _).setCell _ _) ⟨0,7,0,heap_setCell_same _ SB 0 _ _ _ (heap_setCell_same _ SB 1 _ _ _ (heap_setCell_same _ SB 0 _ _ _ HSR.out))⟩
    exact HK.out _ _ _ _ _ _ _ _ _ _ _ _ _ _ _ _ _ _ _ _ _ _ _ _ _ _ f9.1 f9.2
   ·go_wp2_with fail
    have f9:=HS7.out (((W0.setCell ⟨SB,0,none⟩ (.int .i64 7)).setCell ⟨SB,1,none⟩ (.int .i64 7)).setCell ⟨SB,5,none⟩ (.int .i64 2)) ((((Only.refl _ _).setCell _ _).setCell _ _).setCell _ _) ⟨7,7,2,heap_setCell_same _ SB 5 _ _ _ (heap_setCell_same _ SB 1 _ _ _ (heap_setCell_same _ SB 0 _ _ _ HSR.out))⟩
    exact HK.out _ _ _ _ _ _ _ _ _ _ _ _ _ _ _ _ _ _ _ _ _ _ _ _ _ _ f9.1 f9.2
   ·go_wp2_with fail
    have f9:=HS7.out ((W0.setCell ⟨SB,0,none⟩ (.int .i64 7)).setCell ⟨SB,1,none⟩ (.int .i64 7)) (((Only.refl _ _).setCell _ _).setCell _ _) ⟨7,7,0,heap_setCell_same _ SB 1 _ _ _ (heap_setCell_same _ SB 0 _ _ _ HSR.out)⟩
    exact HK.out _ _ _ _ _ _ _ _ _ _ _ _ _ _ _ _ _ _ _ _ _ _ _ _ _ _ f9.1 f9.2
end Go.Proofs.YtkhheooofcpfdaaGreatDoor
namespace Go.Proofs.YtkhheooofcpfdaaGreatDoor
open Go.RowKit Go.Maps
set_option linter.unusedVariables false
set_option maxRecDepth 100000 in
set_option maxHeartbeats 32000000 in
theorem tp_r61 (w W0:World) (A M:Nat) (t u:Tb) (K:Act→World→Prop) (E:Exit→Act→World→Prop) (C:Code) (hC:C=tpReg 61)
  (HT:Hid (TpT w A M t u W0)) (HN:Hid (TpN t u))
  (v0 v1 v2 v3 v4 v5 v6 v7 v8 v10 v11 v12 v14 v15 v16 v17 v18 v19 v20 v21 v22 v23 v24 v25 v26 v27 v28 v29 v30 v31 v32 v33 v34 v35 v36 v37 v38 v39 v40 v41 v42 v43 v44 v45 v46 v47 v48 v49 v50 v51 v52 v53 v54 v55 v56 v57 v58 v59 v60 v61 v62 v63 v64 v65 v66 v67 v68 v69 v70 v71 v72 v73 v74 v75 v76 v77 v78 v79 v80 v81 v82 v83 v84 v85 v86 v87 v88 v89 v90 v91 v92 v93 v94 v95 v96 v97 v98 v99 v2s v2t v2u v2v v2w v2x v2y v2z v108 v109 v110 v111 v112 v113 v114 v115 v116 v117 v3a v3b v3c v3d v3e v3f v3g v3h v3i v3j v3k v3l v3m v3n v3o v3p v3q v3r v3s v3t v3u v3v v3w v3x v3y v3z v144 v145 v146 v147 v148 v149 v150 v151 v152 v153 v4a v4b v4c v4d v4e v4f v4g v4h v4i v4j v4k v4l v4m v4n v4o v4p v4q v4r v4s v4t v4u v4v v4w v4x v4y v4z v180 v181 v182 v183 v184 v185 v186 v187 v188 v189 v5a v5b v5c v5d v5e v5f v5g v5h v5i v5j v5k v5l v5m v5n v5o v5p v5q v5r v5s v5t v5u v5v v5w v5x v5y v5z v216 v217 v218 v219 v220 v221 v222 v223 v224 v225 v6a v6b v6c v6d v6e v6f v6g v6h v6i v6j v6k v6l v6m v6n v6o v6p v6q v6r v6s v6t v6u v6v v6w v6x v6y v6z v252 v253 v254 v255 v256 v257 v258 v259 v260 v261 v7a v7b v7c v7d v7e v7f v7g v7h v7i v7j v7k v7l v7m v7n v7o v7p v7q v7r v7s v7t v7u v7v v7w v7x v7y v7z v288 v289 v290 v291 v292 v293 v294 v295 v296 v297 v8a v8b v8c v8d v8e v8f v8g v8h v8i v8j v8k v8l v8m:Value)
  (hK:∀ (W9:World) (u7p u7q u7r u7s u7t u7u u7v:Value),Below W0.heap.size W0 W9→K { tmps:=#[v0,v1,v2,v3,v4,v5,v6,v7,v8,.pointer (some ⟨A,0,none⟩),v10,v11,v12,.pointer (some ⟨M,0,none⟩),v14,v15,v16,v17,v18,v19,v20,v21,v22,v23,v24,v25,v26,v27,v28,v29,v30,v31,v32,v33,v34,v35,v36,v37,v38,v39,v40,v41,.bool true,v43,v44,v45,v46,v47,v48,v49,v50,v51,v52,v53,v54,v55,v56,v57,v58,v59,v60,v61,v62,v63,v64,v65,v66,v67,v68,v69,v70,v71,v72,v73,v74,v75,v76,v77,v78,v79,v80,v81,v82,v83,v84,v85,v86,v87,v88,v89,v90,v91,v92,v93,v94,v95,v96,v97,v98,v99,v2s,v2t,v2u,v2v,v2w,v2x,v2y,v2z,v108,v109,v110,v111,v112,v113,v114,v115,v116,v117,v3a,v3b,v3c,v3d,v3e,v3f,v3g,v3h,v3i,v3j,v3k,v3l,v3m,v3n,v3o,v3p,v3q,v3r,v3s,v3t,v3u,v3v,v3w,v3x,v3y,v3z,v144,v145,v146,v147,v148,v149,v150,v151,v152,v153,v4a,v4b,v4c,v4d,v4e,v4f,v4g,v4h,v4i,v4j,v4k,v4l,v4m,v4n,v4o,v4p,v4q,v4r,v4s,v4t,v4u,v4v,v4w,v4x,v4y,v4z,v180,v181,v182,v183,v184,v185,v186,v187,v188,v189,v5a,v5b,v5c,v5d,v5e,v5f,v5g,v5h,v5i,v5j,v5k,v5l,v5m,v5n,v5o,v5p,v5q,v5r,v5s,v5t,v5u,v5v,v5w,v5x,v5y,v5z,v216,v217,v218,v219,v220,v221,v222,v223,v224,v225,v6a,v6b,v6c,v6d,v6e,v6f,v6g,v6h,v6i,v6j,v6k,v6l,v6m,v6n,v6o,v6p,v6q,v6r,v6s,v6t,v6u,v6v,v6w,v6x,v6y,v6z,v252,v253,v254,v255,v256,v257,v258,v259,v260,v261,v7a,v7b,v7c,v7d,v7e,v7f,v7g,v7h,v7i,v7j,v7k,v7l,v7m,v7n,v7o,u7p,u7q,u7r,u7s,u7t,u7u,u7v,v7w,v7x,v7y,v7z,v288,v289,v290,v291,v292,v293,v294,v295,v296,v297,v8a,v8b,v8c,v8d,v8e,v8f,v8g,v8h,v8i,v8j,v8k,v8l,v8m],defers:=[] } W9) :
  Code.wp Tryz.prog C (Exit.then K E) { tmps:=#[v0,v1,v2,v3,v4,v5,v6,v7,v8,.pointer (some ⟨A,0,none⟩),v10,v11,v12,.pointer (some ⟨M,0,none⟩),v14,v15,v16,v17,v18,v19,v20,v21,v22,v23,v24,v25,v26,v27,v28,v29,v30,v31,v32,v33,v34,v35,v36,v37,v38,v39,v40,v41,v42,v43,v44,v45,v46,v47,v48,v49,v50,v51,v52,v53,v54,v55,v56,v57,v58,v59,v60,v61,v62,v63,v64,v65,v66,v67,v68,v69,v70,v71,v72,v73,v74,v75,v76,v77,v78,v79,v80,v81,v82,v83,v84,v85,v86,v87,v88,v89,v90,v91,v92,v93,v94,v95,v96,v97,v98,v99,v2s,v2t,v2u,v2v,v2w,v2x,v2y,v2z,v108,v109,v110,v111,v112,v113,v114,v115,v116,v117,v3a,v3b,v3c,v3d,v3e,v3f,v3g,v3h,v3i,v3j,v3k,v3l,v3m,v3n,v3o,v3p,v3q,v3r,v3s,v3t,v3u,v3v,v3w,v3x,v3y,v3z,v144,v145,v146,v147,v148,v149,v150,v151,v152,v153,v4a,v4b,v4c,v4d,v4e,v4f,v4g,v4h,v4i,v4j,v4k,v4l,v4m,v4n,v4o,v4p,v4q,v4r,v4s,v4t,v4u,v4v,v4w,v4x,v4y,v4z,v180,v181,v182,v183,v184,v185,v186,v187,v188,v189,v5a,v5b,v5c,v5d,v5e,v5f,v5g,v5h,v5i,v5j,v5k,v5l,v5m,v5n,v5o,v5p,v5q,v5r,v5s,v5t,v5u,v5v,v5w,v5x,v5y,v5z,v216,v217,v218,v219,v220,v221,v222,v223,v224,v225,v6a,v6b,v6c,v6d,v6e,v6f,v6g,v6h,v6i,v6j,v6k,v6l,v6m,v6n,v6o,v6p,v6q,v6r,v6s,v6t,v6u,v6v,v6w,v6x,v6y,v6z,v252,v253,v254,v255,v256,v257,v258,v259,v260,v261,v7a,v7b,v7c,v7d,v7e,v7f,v7g,v7h,v7i,v7j,v7k,v7l,v7m,v7n,v7o,v7p,v7q,v7r,v7s,v7t,v7u,v7v,v7w,v7x,v7y,v7z,v288,v289,v290,v291,v292,v293,v294,v295,v296,v297,v8a,v8b,v8c,v8d,v8e,v8f,v8g,v8h,v8i,v8j,v8k,v8l,v8m],defers:=[] } W0:=by
 subst hC
 conv =>
  arg 2
  unfold tpReg
  unfold Tryz.f3
  simp only [Option.getD_some,regAt]
 conv =>
  arg 4
  zeta
 try simp (maxSteps:=10000000) only at hK
 have HK:=hidE hK
 clear hK
 refine wp_mono (Q:=Exit.then K fun _ _ _=>False) ?_ (then_of K E)
 obtain ⟨m,hm,hb⟩:=HT.out.tb
 obtain ⟨va,hv,hne⟩:=HT.out.lr
 have q1:=all_any A m t W0.drew ⟨hb.tab,hb.map.block rfl,hb.oks⟩ HN.out.tw.ap HN.out.len.1
 have HLV:Hid (∀ W,Below W0.heap.size W0 W→W.cell? ⟨M,2,none⟩=some va):=fun W h=>(l_cells (hv.below h).tab).2.2
 have HSF:Hid (∀ (W:World) (v:Value) (qs:List Ky),Below W0.heap.size W0 W→OwnFl W W0.heap.size v (qs.map (getK t.fs))→qs.Perm (t.fs.map fun f=>firstK f.key)→qs.Pairwise (fun p q=>¬ LtK q p)→Calls Tryz.prog 21 #[v,va] W fun e w'=>e = .returned (.bool true)∧Below W.heap.size W w'):=fun W v qs h1 h2 h3 h4=>by
  rw [HN.out.tw.all h3 h4] at h2
  exact sameFls v va u.fs W ⟨_,h2⟩ ⟨_,(hv.below h1).own⟩
 have hS0:=HLV.out W0 (Below.refl _ _)
 clear hm hb hv hne
 go_region_held3 (fun X9=>X9.cell? ⟨M,2,none⟩=some va) (with_reducible first|assumption|exact hS0|go_keep) (first
  | (go_at_call 22;go_must ((with_reducible refine q1.mono ?_);rintro e' W1 ⟨v,qs,rfl,h1,h2,h3,b1⟩;have b1':=bel_dr b1;have hS1:=HLV.out W1 b1';have q2:=HSF.out W1 v qs b1' h1 h2 h3;have HB1:=hidE b1';clear h1 h2 h3 b1 b1'))
  | (go_at_call 21;go_must ((with_reducible refine q2.mono ?_);rintro e' W2 ⟨rfl,b2⟩;have HB2:=hidE (HB1.out.trans (b2.mono HB1.out.size));have hS2:=HLV.out W2 HB2.out;clear b2)))
 exact HK.out _ _ _ _ _ _ _ _ HB2.out
end Go.Proofs.YtkhheooofcpfdaaGreatDoor
namespace Go.Proofs.YtkhheooofcpfdaaGreatDoor
open Go.RowKit Go.Maps
set_option linter.unusedVariables false
set_option maxRecDepth 100000 in
set_option maxHeartbeats 32000000 in
theorem tp_r62t (w W0:World) (A M P R:Nat) (t u:Tb) (X:Fl) (K:Act→World→Prop) (E:Exit→Act→World→Prop) (C:Code) (hC:C=tpReg 62)
  (HT:Hid (TpT w A M t u W0)) (HN:Hid (TpN t u)) (HP:Hid (FlAt W0 P X)) (HR:Hid (FlAt W0 R X))
  (v0 v1 v2 v3 v4 v5 v6 v7 v8 v10 v11 v14 v15 v16 v17 v18 v19 v20 v21 v22 v23 v24 v25 v26 v27 v28 v29 v30 v31 v32 v33 v34 v35 v36 v37 v43 v44 v45 v46 v47 v48 v49 v50 v51 v52 v53 v54 v55 v56 v57 v58 v59 v60 v61 v62 v63 v64 v65 v66 v67 v68 v69 v70 v71 v72 v73 v74 v75 v76 v77 v78 v79 v80 v81 v82 v83 v84 v85 v86 v87 v88 v89 v90 v91 v92 v93 v94 v95 v96 v97 v98 v99 v2s v2t v2u v2v v2w v2x v2y v2z v108 v109 v110 v111 v112 v113 v114 v115 v116 v117 v3a v3b v3c v3d v3e v3f v3g v3h v3i v3j v3k v3l v3m v3n v3o v3p v3q v3r v3s v3t v3u v3v v3w v3x v3y v3z v144 v145 v146 v147 v148 v149 v150 v151 v152 v153 v4a v4b v4c v4d v4e v4f v4g v4h v4i v4j v4k v4l v4m v4n v4o v4p v4q v4r v4s v4t v4u v4v v4w v4x v4y v4z v180 v181 v182 v183 v184 v185 v186 v187 v188 v189 v5a v5b v5c v5d v5e v5f v5g v5h v5i v5j v5k v5l v5m v5n v5o v5p v5q v5r v5s v5t v5u v5v v5w v5x v5y v5z v216 v217 v218 v219 v220 v221 v222 v223 v224 v225 v6a v6b v6c v6d v6e v6f v6g v6h v6i v6j v6k v6l v6m v6n v6o v6p v6q v6r v6s v6t v6u v6v v6w v6x v6y v6z v252 v253 v254 v255 v256 v257 v258 v259 v260 v261 v7a v7b v7c v7d v7e v7f v7g v7h v7i v7j v7k v7l v7m v7n v7o v7p v7q v7r v7s v7t v7u v7v v7w v7x v7y v7z v288 v289 v290 v291 v292 v293 v294 v295 v296 v297 v8a v8b v8c v8d v8e v8f v8g v8h v8i v8j v8k v8l v8m:Value)
  (hK:∀ (W9:World) (u7w u7x u7y u7z u80 u81 u82 u83 u84 u85 u86 u87 u88 u89 u8a u8b u8c u8d u8e u8f u8g u8h u8i u8j u8k u8l:Value),Below W0.heap.size W0 W9→K { tmps:=#[v0,v1,v2,v3,v4,v5,v6,v7,v8,.pointer (some ⟨A,0,none⟩),v10,v11,.bool true,.pointer (some ⟨M,0,none⟩),v14,v15,v16,v17,v18,v19,v20,v21,v22,v23,v24,v25,v26,v27,v28,v29,v30,v31,v32,v33,v34,v35,v36,v37,.pointer (some ⟨P,0,none⟩),.bool true,.pointer (some ⟨R,0,none⟩),.nilIface,.bool true,v43,v44,v45,v46,v47,v48,v49,v50,v51,v52,v53,v54,v55,v56,v57,v58,v59,v60,v61,v62,v63,v64,v65,v66,v67,v68,v69,v70,v71,v72,v73,v74,v75,v76,v77,v78,v79,v80,v81,v82,v83,v84,v85,v86,v87,v88,v89,v90,v91,v92,v93,v94,v95,v96,v97,v98,v99,v2s,v2t,v2u,v2v,v2w,v2x,v2y,v2z,v108,v109,v110,v111,v112,v113,v114,v115,v116,v117,v3a,v3b,v3c,v3d,v3e,v3f,v3g,v3h,v3i,v3j,v3k,v3l,v3m,v3n,v3o,v3p,v3q,v3r,v3s,v3t,v3u,v3v,v3w,v3x,v3y,v3z,v144,v145,v146,v147,v148,v149,v150,v151,v152,v153,v4a,v4b,v4c,v4d,v4e,v4f,v4g,v4h,v4i,v4j,v4k,v4l,v4m,v4n,v4o,v4p,v4q,v4r,v4s,v4t,v4u,v4v,v4w,v4x,v4y,v4z,v180,v181,v182,v183,v184,v185,v186,v187,v188,v189,v5a,v5b,v5c,v5d,v5e,v5f,v5g,v5h,v5i,v5j,v5k,v5l,v5m,v5n,v5o,v5p,v5q,v5r,v5s,v5t,v5u,v5v,v5w,v5x,v5y,v5z,v216,v217,v218,v219,v220,v221,v222,v223,v224,v225,v6a,v6b,v6c,v6d,v6e,v6f,v6g,v6h,v6i,v6j,v6k,v6l,v6m,v6n,v6o,v6p,v6q,v6r,v6s,v6t,v6u,v6v,v6w,v6x,v6y,v6z,v252,v253,v254,v255,v256,v257,v258,v259,v260,v261,v7a,v7b,v7c,v7d,v7e,v7f,v7g,v7h,v7i,v7j,v7k,v7l,v7m,v7n,v7o,v7p,v7q,v7r,v7s,v7t,v7u,v7v,u7w,u7x,u7y,u7z,u80,u81,u82,u83,u84,u85,u86,u87,u88,u89,u8a,u8b,u8c,u8d,u8e,u8f,u8g,u8h,u8i,u8j,u8k,u8l,.bool false],defers:=[] } W9) :
  Code.wp Tryz.prog C (Exit.then K E) { tmps:=#[v0,v1,v2,v3,v4,v5,v6,v7,v8,.pointer (some ⟨A,0,none⟩),v10,v11,.bool true,.pointer (some ⟨M,0,none⟩),v14,v15,v16,v17,v18,v19,v20,v21,v22,v23,v24,v25,v26,v27,v28,v29,v30,v31,v32,v33,v34,v35,v36,v37,.pointer (some ⟨P,0,none⟩),.bool true,.pointer (some ⟨R,0,none⟩),.nilIface,.bool true,v43,v44,v45,v46,v47,v48,v49,v50,v51,v52,v53,v54,v55,v56,v57,v58,v59,v60,v61,v62,v63,v64,v65,v66,v67,v68,v69,v70,v71,v72,v73,v74,v75,v76,v77,v78,v79,v80,v81,v82,v83,v84,v85,v86,v87,v88,v89,v90,v91,v92,v93,v94,v95,v96,v97,v98,v99,v2s,v2t,v2u,v2v,v2w,v2x,v2y,v2z,v108,v109,v110,v111,v112,v113,v114,v115,v116,v117,v3a,v3b,v3c,v3d,v3e,v3f,v3g,v3h,v3i,v3j,v3k,v3l,v3m,v3n,v3o,v3p,v3q,v3r,v3s,v3t,v3u,v3v,v3w,v3x,v3y,v3z,v144,v145,v146,v147,v148,v149,v150,v151,v152,v153,v4a,v4b,v4c,v4d,v4e,v4f,v4g,v4h,v4i,v4j,v4k,v4l,v4m,v4n,v4o,v4p,v4q,v4r,v4s,v4t,v4u,v4v,v4w,v4x,v4y,v4z,v180,v181,v182,v183,v184,v185,v186,v187,v188,v189,v5a,v5b,v5c,v5d,v5e,v5f,v5g,v5h,v5i,v5j,v5k,v5l,v5m,v5n,v5o,v5p,v5q,v5r,v5s,v5t,v5u,v5v,v5w,v5x,v5y,v5z,v216,v217,v218,v219,v220,v221,v222,v223,v224,v225,v6a,v6b,v6c,v6d,v6e,v6f,v6g,v6h,v6i,v6j,v6k,v6l,v6m,v6n,v6o,v6p,v6q,v6r,v6s,v6t,v6u,v6v,v6w,v6x,v6y,v6z,v252,v253,v254,v255,v256,v257,v258,v259,v260,v261,v7a,v7b,v7c,v7d,v7e,v7f,v7g,v7h,v7i,v7j,v7k,v7l,v7m,v7n,v7o,v7p,v7q,v7r,v7s,v7t,v7u,v7v,v7w,v7x,v7y,v7z,v288,v289,v290,v291,v292,v293,v294,v295,v296,v297,v8a,v8b,v8c,v8d,v8e,v8f,v8g,v8h,v8i,v8j,v8k,v8l,v8m],defers:=[] } W0:=by
 subst hC
 conv =>
  arg 2
  unfold tpReg
  unfold Tryz.f3
  simp only [Option.getD_some,regAt]
 conv =>
  arg 4
  zeta
 try simp (maxSteps:=10000000) only at hK
 have HK:=hidE hK
 clear hK
 refine wp_mono (Q:=Exit.then K fun _ _ _=>False) ?_ (then_of K E)
 obtain ⟨m,hm,hb⟩:=HT.out.tb
 obtain ⟨va,hv,hne⟩:=HT.out.lr
 obtain ⟨a9,c9,hva⟩:=OwnN.len hv.own
 have hll:t.fs.length=u.fs.length:=HN.out.tw.pm.length_eq
 obtain ⟨n,hn⟩:∃ n,u.fs.length=n:=⟨_,rfl⟩
 rw [hn] at hva hll
 subst hva
 have hcL:∀ x:Ext W0,Calls Tryz.prog 23 #[.pointer (some ⟨A,0,none⟩)] x.W fun e w'=>e = .returned (.int .i64 (n:Int))∧∃ x':Ext W0,w'=x'.W:=fun x=>by
  have:=tlen_any A m t x.W (hb.below x.h)
  rw [hll] at this
  refine this.mono ?_
  rintro e w' ⟨rfl,rfl⟩
  exact ⟨rfl,x,rfl⟩
 have c2:=Ext.cell (l_cells hv.tab).2.2
 obtain ⟨d0,d1,d2,d3,d4,d5,d6,d7,d8,d9,d10,d11,d12,d13,d14⟩:=HP.out.cells
 obtain ⟨e0,e1,e2,e3,e4,e5,e6,e7,e8,e9,e10,e11,e12,e13,e14⟩:=HR.out.cells
 have d0:=Ext.cell d0
 have e0:=Ext.cell e0
 have d1:=Ext.cell d1
 have e1:=Ext.cell e1
 have d2:=Ext.cell d2
 have e2:=Ext.cell e2
 have d3:=Ext.cell d3
 have e3:=Ext.cell e3
 have d4:=Ext.cell d4
 have e4:=Ext.cell e4
 have d5:=Ext.cell d5
 have e5:=Ext.cell e5
 have d6:=Ext.cell d6
 have e6:=Ext.cell e6
 have d7:=Ext.cell d7
 have e7:=Ext.cell e7
 have d8:=Ext.cell d8
 have e8:=Ext.cell e8
 have d9:=Ext.cell d9
 have e9:=Ext.cell e9
 have d10:=Ext.cell d10
 have e10:=Ext.cell e10
 have d11:=Ext.cell d11
 have e11:=Ext.cell e11
 have d12:=Ext.cell d12
 have e12:=Ext.cell e12
 have d13:=Ext.cell d13
 have e13:=Ext.cell e13
 have d14:=Ext.cell d14
 have e14:=Ext.cell e14
 have hfe:=fun w=>Tryz.flNeq X w
 have hfg:=Tryz.flGuard
 clear hm hb hv hne hll hn
 refine wp_region_ext (by kernel_rfl) (by kernel_rfl) ?_
 repeat (go_big_quiet_step ((go_at_call 23;exact hcL _)))
 refine wpQuiet_nil ?_
 rintro _ ⟨x,rfl⟩
 have HX:=hidE x.h
 exact HK.out _ _ _ _ _ _ _ _ _ _ _ _ _ _ _ _ _ _ _ _ _ _ _ _ _ _ _ HX.out
set_option maxRecDepth 100000 in
set_option maxHeartbeats 32000000 in
theorem tp_r62f (w W0:World) (A M P R:Nat) (t u:Tb) (X:Fl) (K:Act→World→Prop) (E:Exit→Act→World→Prop) (C:Code) (hC:C=tpReg 62)
  (HT:Hid (TpT w A M t u W0)) (HN:Hid (TpN t u)) (HP:Hid (FlAt W0 P X)) (HR:Hid (FlAt W0 R X))
  (v0 v1 v2 v3 v4 v5 v6 v7 v8 v10 v11 v14 v15 v16 v17 v18 v19 v20 v21 v22 v23 v24 v25 v26 v27 v28 v29 v30 v31 v32 v33 v34 v35 v36 v37 v43 v44 v45 v46 v47 v48 v49 v50 v51 v52 v53 v54 v55 v56 v57 v58 v59 v60 v61 v62 v63 v64 v65 v66 v67 v68 v69 v70 v71 v72 v73 v74 v75 v76 v77 v78 v79 v80 v81 v82 v83 v84 v85 v86 v87 v88 v89 v90 v91 v92 v93 v94 v95 v96 v97 v98 v99 v2s v2t v2u v2v v2w v2x v2y v2z v108 v109 v110 v111 v112 v113 v114 v115 v116 v117 v3a v3b v3c v3d v3e v3f v3g v3h v3i v3j v3k v3l v3m v3n v3o v3p v3q v3r v3s v3t v3u v3v v3w v3x v3y v3z v144 v145 v146 v147 v148 v149 v150 v151 v152 v153 v4a v4b v4c v4d v4e v4f v4g v4h v4i v4j v4k v4l v4m v4n v4o v4p v4q v4r v4s v4t v4u v4v v4w v4x v4y v4z v180 v181 v182 v183 v184 v185 v186 v187 v188 v189 v5a v5b v5c v5d v5e v5f v5g v5h v5i v5j v5k v5l v5m v5n v5o v5p v5q v5r v5s v5t v5u v5v v5w v5x v5y v5z v216 v217 v218 v219 v220 v221 v222 v223 v224 v225 v6a v6b v6c v6d v6e v6f v6g v6h v6i v6j v6k v6l v6m v6n v6o v6p v6q v6r v6s v6t v6u v6v v6w v6x v6y v6z v252 v253 v254 v255 v256 v257 v258 v259 v260 v261 v7a v7b v7c v7d v7e v7f v7g v7h v7i v7j v7k v7l v7m v7n v7o v7p v7q v7r v7s v7t v7u v7v v7w v7x v7y v7z v288 v289 v290 v291 v292 v293 v294 v295 v296 v297 v8a v8b v8c v8d v8e v8f v8g v8h v8i v8j v8k v8l v8m:Value)
  (hK:∀ (W9:World) (u7w u7x u7y u7z u80 u81 u82 u83 u84 u85 u86 u87 u88 u89 u8a u8b u8c u8d u8e u8f u8g u8h u8i u8j u8k u8l:Value),Below W0.heap.size W0 W9→K { tmps:=#[v0,v1,v2,v3,v4,v5,v6,v7,v8,.pointer (some ⟨A,0,none⟩),v10,v11,.bool true,.pointer (some ⟨M,0,none⟩),v14,v15,v16,v17,v18,v19,v20,v21,v22,v23,v24,v25,v26,v27,v28,v29,v30,v31,v32,v33,v34,v35,v36,v37,.pointer (some ⟨P,0,none⟩),.bool false,.pointer (some ⟨R,0,none⟩),.iface 71 (.int .i64 5),.bool true,v43,v44,v45,v46,v47,v48,v49,v50,v51,v52,v53,v54,v55,v56,v57,v58,v59,v60,v61,v62,v63,v64,v65,v66,v67,v68,v69,v70,v71,v72,v73,v74,v75,v76,v77,v78,v79,v80,v81,v82,v83,v84,v85,v86,v87,v88,v89,v90,v91,v92,v93,v94,v95,v96,v97,v98,v99,v2s,v2t,v2u,v2v,v2w,v2x,v2y,v2z,v108,v109,v110,v111,v112,v113,v114,v115,v116,v117,v3a,v3b,v3c,v3d,v3e,v3f,v3g,v3h,v3i,v3j,v3k,v3l,v3m,v3n,v3o,v3p,v3q,v3r,v3s,v3t,v3u,v3v,v3w,v3x,v3y,v3z,v144,v145,v146,v147,v148,v149,v150,v151,v152,v153,v4a,v4b,v4c,v4d,v4e,v4f,v4g,v4h,v4i,v4j,v4k,v4l,v4m,v4n,v4o,v4p,v4q,v4r,v4s,v4t,v4u,v4v,v4w,v4x,v4y,v4z,v180,v181,v182,v183,v184,v185,v186,v187,v188,v189,v5a,v5b,v5c,v5d,v5e,v5f,v5g,v5h,v5i,v5j,v5k,v5l,v5m,v5n,v5o,v5p,v5q,v5r,v5s,v5t,v5u,v5v,v5w,v5x,v5y,v5z,v216,v217,v218,v219,v220,v221,v222,v223,v224,v225,v6a,v6b,v6c,v6d,v6e,v6f,v6g,v6h,v6i,v6j,v6k,v6l,v6m,v6n,v6o,v6p,v6q,v6r,v6s,v6t,v6u,v6v,v6w,v6x,v6y,v6z,v252,v253,v254,v255,v256,v257,v258,v259,v260,v261,v7a,v7b,v7c,v7d,v7e,v7f,v7g,v7h,v7i,v7j,v7k,v7l,v7m,v7n,v7o,v7p,v7q,v7r,v7s,v7t,v7u,v7v,u7w,u7x,u7y,u7z,u80,u81,u82,u83,u84,u85,u86,u87,u88,u89,u8a,u8b,u8c,u8d,u8e,u8f,u8g,u8h,u8i,u8j,u8k,u8l,.bool false],defers:=[] } W9) :
  Code.wp Tryz.prog C (Exit.then K E) { tmps:=#[v0,v1,v2,v3,v4,v5,v6,v7,v8,.pointer (some ⟨A,0,none⟩),v10,v11,.bool true,.pointer (some ⟨M,0,none⟩),v14,v15,v16,v17,v18,v19,v20,v21,v22,v23,v24,v25,v26,v27,v28,v29,v30,v31,v32,v33,v34,v35,v36,v37,.pointer (some ⟨P,0,none⟩),.bool false,.pointer (some ⟨R,0,none⟩),.iface 71 (.int .i64 5),.bool true,v43,v44,v45,v46,v47,v48,v49,v50,v51,v52,v53,v54,v55,v56,v57,v58,v59,v60,v61,v62,v63,v64,v65,v66,v67,v68,v69,v70,v71,v72,v73,v74,v75,v76,v77,v78,v79,v80,v81,v82,v83,v84,v85,v86,v87,v88,v89,v90,v91,v92,v93,v94,v95,v96,v97,v98,v99,v2s,v2t,v2u,v2v,v2w,v2x,v2y,v2z,v108,v109,v110,v111,v112,v113,v114,v115,v116,v117,v3a,v3b,v3c,v3d,v3e,v3f,v3g,v3h,v3i,v3j,v3k,v3l,v3m,v3n,v3o,v3p,v3q,v3r,v3s,v3t,v3u,v3v,v3w,v3x,v3y,v3z,v144,v145,v146,v147,v148,v149,v150,v151,v152,v153,v4a,v4b,v4c,v4d,v4e,v4f,v4g,v4h,v4i,v4j,v4k,v4l,v4m,v4n,v4o,v4p,v4q,v4r,v4s,v4t,v4u,v4v,v4w,v4x,v4y,v4z,v180,v181,v182,v183,v184,v185,v186,v187,v188,v189,v5a,v5b,v5c,v5d,v5e,v5f,v5g,v5h,v5i,v5j,v5k,v5l,v5m,v5n,v5o,v5p,v5q,v5r,v5s,v5t,v5u,v5v,v5w,v5x,v5y,v5z,v216,v217,v218,v219,v220,v221,v222,v223,v224,v225,v6a,v6b,v6c,v6d,v6e,v6f,v6g,v6h,v6i,v6j,v6k,v6l,v6m,v6n,v6o,v6p,v6q,v6r,v6s,v6t,v6u,v6v,v6w,v6x,v6y,v6z,v252,v253,v254,v255,v256,v257,v258,v259,v260,v261,v7a,v7b,v7c,v7d,v7e,v7f,v7g,v7h,v7i,v7j,v7k,v7l,v7m,v7n,v7o,v7p,v7q,v7r,v7s,v7t,v7u,v7v,v7w,v7x,v7y,v7z,v288,v289,v290,v291,v292,v293,v294,v295,v296,v297,v8a,v8b,v8c,v8d,v8e,v8f,v8g,v8h,v8i,v8j,v8k,v8l,v8m],defers:=[] } W0:=by
 subst hC
 conv =>
  arg 2
  unfold tpReg
  unfold Tryz.f3
  simp only [Option.getD_some,regAt]
 conv =>
  arg 4
  zeta
 try simp (maxSteps:=10000000) only at hK
 have HK:=hidE hK
 clear hK
 refine wp_mono (Q:=Exit.then K fun _ _ _=>False) ?_ (then_of K E)
 obtain ⟨m,hm,hb⟩:=HT.out.tb
 obtain ⟨va,hv,hne⟩:=HT.out.lr
 obtain ⟨a9,c9,hva⟩:=OwnN.len hv.own
 have hll:t.fs.length=u.fs.length:=HN.out.tw.pm.length_eq
 obtain ⟨n,hn⟩:∃ n,u.fs.length=n:=⟨_,rfl⟩
 rw [hn] at hva hll
 subst hva
 have hcL:∀ x:Ext W0,Calls Tryz.prog 23 #[.pointer (some ⟨A,0,none⟩)] x.W fun e w'=>e = .returned (.int .i64 (n:Int))∧∃ x':Ext W0,w'=x'.W:=fun x=>by
  have:=tlen_any A m t x.W (hb.below x.h)
  rw [hll] at this
  refine this.mono ?_
  rintro e w' ⟨rfl,rfl⟩
  exact ⟨rfl,x,rfl⟩
 have c2:=Ext.cell (l_cells hv.tab).2.2
 obtain ⟨d0,d1,d2,d3,d4,d5,d6,d7,d8,d9,d10,d11,d12,d13,d14⟩:=HP.out.cells
 obtain ⟨e0,e1,e2,e3,e4,e5,e6,e7,e8,e9,e10,e11,e12,e13,e14⟩:=HR.out.cells
 have d0:=Ext.cell d0
 have e0:=Ext.cell e0
 have d1:=Ext.cell d1
 have e1:=Ext.cell e1
 have d2:=Ext.cell d2
 have e2:=Ext.cell e2
 have d3:=Ext.cell d3
 have e3:=Ext.cell e3
 have d4:=Ext.cell d4
 have e4:=Ext.cell e4
 have d5:=Ext.cell d5
 have e5:=Ext.cell e5
 have d6:=Ext.cell d6
 have e6:=Ext.cell e6
 have d7:=Ext.cell d7
 have e7:=Ext.cell e7
 have d8:=Ext.cell d8
 have e8:=Ext.cell e8
 have d9:=Ext.cell d9
 have e9:=Ext.cell e9
 have d10:=Ext.cell d10
 have e10:=Ext.cell e10
 have d11:=Ext.cell d11
 have e11:=Ext.cell e11
 have d12:=Ext.cell d12
 have e12:=Ext.cell e12
 have d13:=Ext.cell d13
 have e13:=Ext.cell e13
 have d14:=Ext.cell d14
 have e14:=Ext.cell e14
 have hfe:=fun w=>Tryz.flNeq X w
 have hfg:=Tryz.flGuard
 clear hm hb hv hne hll hn
 refine wp_region_ext (by kernel_rfl) (by kernel_rfl) ?_
 repeat (go_big_quiet_step ((go_at_call 23;exact hcL _)))
 refine wpQuiet_nil ?_
 rintro _ ⟨x,rfl⟩
 have HX:=hidE x.h
 exact HK.out _ _ _ _ _ _ _ _ _ _ _ _ _ _ _ _ _ _ _ _ _ _ _ _ _ _ _ HX.out
end Go.Proofs.YtkhheooofcpfdaaGreatDoor
namespace Go.Proofs.YtkhheooofcpfdaaGreatDoor
open Go.RowKit Go.Maps
set_option linter.unusedVariables false
set_option maxRecDepth 100000 in
set_option maxHeartbeats 32000000 in
theorem tp_tail (w W0:World) (A M KB:Nat) (t u:Tb) (k:Ky) (E:Exit→Act→World→Prop) (C:Code) (hC:C=tpSeq 59)
  (HT:Hid (TpT w A M t u W0)) (HN:Hid (TpN t u)) (HKY:Hid (KyAt W0 KB k)) (HKO:Hid (KyOk k))
  (v0 v1 v2 v3 v4 v5 v6 v7 v8 v10 v11 v14 v15 v16 v18 v19 v20 v21 v22 v23 v24 v25 v26 v27 v28 v29 v30 v31 v32 v33 v34 v35 v36 v37 v38 v39 v40 v41 v42 v43 v44 v45 v46 v47 v48 v49 v50 v51 v52 v53 v54 v55 v56 v57 v58 v59 v60 v61 v62 v63 v64 v65 v66 v67 v68 v69 v70 v71 v72 v73 v74 v75 v76 v77 v78 v79 v80 v81 v82 v83 v84 v85 v86 v87 v88 v89 v90 v91 v92 v93 v94 v95 v96 v97 v98 v99 v2s v2t v2u v2v v2w v2x v2y v2z v108 v109 v110 v111 v112 v113 v114 v115 v116 v117 v3a v3b v3c v3d v3e v3f v3g v3h v3i v3j v3k v3l v3m v3n v3o v3p v3q v3r v3s v3t v3u v3v v3w v3x v3y v3z v144 v145 v146 v147 v148 v149 v150 v151 v152 v153 v4a v4b v4c v4d v4e v4f v4g v4h v4i v4j v4k v4l v4m v4n v4o v4p v4q v4r v4s v4t v4u v4v v4w v4x v4y v4z v180 v181 v182 v183 v184 v185 v186 v187 v188 v189 v5a v5b v5c v5d v5e v5f v5g v5h v5i v5j v5k v5l v5m v5n v5o v5p v5q v5r v5s v5t v5u v5v v5w v5x v5y v5z v216 v217 v218 v219 v220 v221 v222 v223 v224 v225 v6a v6b v6c v6d v6e v6f v6g v6h v6i v6j v6k v6l v6m v6n v6o v6p v6q v6r v6s v6t v6u v6v v6w v6x v6y v6z v252 v253 v254 v255 v256 v257 v258 v259 v260 v261 v7a v7b v7c v7d v7e v7f v7g v7h v7i v7j v7k v7l v7m v7n v7o v7p v7q v7r v7s v7t v7u v7v v7w v7x v7y v7z v288 v289 v290 v291 v292 v293 v294 v295 v296 v297 v8a v8b v8c v8d v8e v8f v8g v8h v8i v8j v8k v8l v8m:Value)
  (hK:∀ (W9:World) (u38 u39 u40 u41 u42 u7d u7e u7f u7g u7h u7i u7j u7k u7l u7m u7n u7o u7p u7q u7r u7s u7t u7u u7v u7w u7x u7y u7z u80 u81 u82 u83 u84 u85 u86 u87 u88 u89 u8a u8b u8c u8d u8e u8f u8g u8h u8i u8j u8k u8l u8m:Value),TpS w A M W9→E .normal { tmps:=#[v0,v1,v2,v3,v4,v5,v6,v7,v8,.pointer (some ⟨A,0,none⟩),v10,v11,.bool true,.pointer (some ⟨M,0,none⟩),v14,v15,v16,.pointer (some ⟨KB,0,none⟩),v18,v19,v20,v21,v22,v23,v24,v25,v26,v27,v28,v29,v30,v31,v32,v33,v34,v35,v36,v37,u38,u39,u40,u41,u42,v43,v44,v45,v46,v47,v48,v49,v50,v51,v52,v53,v54,v55,v56,v57,v58,v59,v60,v61,v62,v63,v64,v65,v66,v67,v68,v69,v70,v71,v72,v73,v74,v75,v76,v77,v78,v79,v80,v81,v82,v83,v84,v85,v86,v87,v88,v89,v90,v91,v92,v93,v94,v95,v96,v97,v98,v99,v2s,v2t,v2u,v2v,v2w,v2x,v2y,v2z,v108,v109,v110,v111,v112,v113,v114,v115,v116,v117,v3a,v3b,v3c,v3d,v3e,v3f,v3g,v3h,v3i,v3j,v3k,v3l,v3m,v3n,v3o,v3p,v3q,v3r,v3s,v3t,v3u,v3v,v3w,v3x,v3y,v3z,v144,v145,v146,v147,v148,v149,v150,v151,v152,v153,v4a,v4b,v4c,v4d,v4e,v4f,v4g,v4h,v4i,v4j,v4k,v4l,v4m,v4n,v4o,v4p,v4q,v4r,v4s,v4t,v4u,v4v,v4w,v4x,v4y,v4z,v180,v181,v182,v183,v184,v185,v186,v187,v188,v189,v5a,v5b,v5c,v5d,v5e,v5f,v5g,v5h,v5i,v5j,v5k,v5l,v5m,v5n,v5o,v5p,v5q,v5r,v5s,v5t,v5u,v5v,v5w,v5x,v5y,v5z,v216,v217,v218,v219,v220,v221,v222,v223,v224,v225,v6a,v6b,v6c,v6d,v6e,v6f,v6g,v6h,v6i,v6j,v6k,v6l,v6m,v6n,v6o,v6p,v6q,v6r,v6s,v6t,v6u,v6v,v6w,v6x,v6y,v6z,v252,v253,v254,v255,v256,v257,v258,v259,v260,v261,v7a,v7b,v7c,u7d,u7e,u7f,u7g,u7h,u7i,u7j,u7k,u7l,u7m,u7n,u7o,u7p,u7q,u7r,u7s,u7t,u7u,u7v,u7w,u7x,u7y,u7z,u80,u81,u82,u83,u84,u85,u86,u87,u88,u89,u8a,u8b,u8c,u8d,u8e,u8f,u8g,u8h,u8i,u8j,u8k,u8l,u8m],defers:=[] } W9) :
  Code.wp Tryz.prog C E { tmps:=#[v0,v1,v2,v3,v4,v5,v6,v7,v8,.pointer (some ⟨A,0,none⟩),v10,v11,.bool true,.pointer (some ⟨M,0,none⟩),v14,v15,v16,.pointer (some ⟨KB,0,none⟩),v18,v19,v20,v21,v22,v23,v24,v25,v26,v27,v28,v29,v30,v31,v32,v33,v34,v35,v36,v37,v38,v39,v40,v41,v42,v43,v44,v45,v46,v47,v48,v49,v50,v51,v52,v53,v54,v55,v56,v57,v58,v59,v60,v61,v62,v63,v64,v65,v66,v67,v68,v69,v70,v71,v72,v73,v74,v75,v76,v77,v78,v79,v80,v81,v82,v83,v84,v85,v86,v87,v88,v89,v90,v91,v92,v93,v94,v95,v96,v97,v98,v99,v2s,v2t,v2u,v2v,v2w,v2x,v2y,v2z,v108,v109,v110,v111,v112,v113,v114,v115,v116,v117,v3a,v3b,v3c,v3d,v3e,v3f,v3g,v3h,v3i,v3j,v3k,v3l,v3m,v3n,v3o,v3p,v3q,v3r,v3s,v3t,v3u,v3v,v3w,v3x,v3y,v3z,v144,v145,v146,v147,v148,v149,v150,v151,v152,v153,v4a,v4b,v4c,v4d,v4e,v4f,v4g,v4h,v4i,v4j,v4k,v4l,v4m,v4n,v4o,v4p,v4q,v4r,v4s,v4t,v4u,v4v,v4w,v4x,v4y,v4z,v180,v181,v182,v183,v184,v185,v186,v187,v188,v189,v5a,v5b,v5c,v5d,v5e,v5f,v5g,v5h,v5i,v5j,v5k,v5l,v5m,v5n,v5o,v5p,v5q,v5r,v5s,v5t,v5u,v5v,v5w,v5x,v5y,v5z,v216,v217,v218,v219,v220,v221,v222,v223,v224,v225,v6a,v6b,v6c,v6d,v6e,v6f,v6g,v6h,v6i,v6j,v6k,v6l,v6m,v6n,v6o,v6p,v6q,v6r,v6s,v6t,v6u,v6v,v6w,v6x,v6y,v6z,v252,v253,v254,v255,v256,v257,v258,v259,v260,v261,v7a,v7b,v7c,v7d,v7e,v7f,v7g,v7h,v7i,v7j,v7k,v7l,v7m,v7n,v7o,v7p,v7q,v7r,v7s,v7t,v7u,v7v,v7w,v7x,v7y,v7z,v288,v289,v290,v291,v292,v293,v294,v295,v296,v297,v8a,v8b,v8c,v8d,v8e,v8f,v8g,v8h,v8i,v8j,v8k,v8l,v8m],defers:=[] } W0:=by
 subst hC
 conv =>
  arg 2
  unfold tpSeq
  unfold Tryz.f3
  simp only [Option.getD_some,seqAt,isReg]
 conv =>
  arg 4
  zeta
 try simp (maxSteps:=10000000) only at hK
 have HK:=hidE hK
 clear hK
 obtain ⟨va,hv,hne⟩:=HT.out.lr
 have q1:=lget_any M u va k W0 hv HN.out.len.2
 obtain ⟨X,hX⟩:∃ X,getK u.fs k=X:=⟨_,rfl⟩
 obtain ⟨x,hx⟩:∃ x,hasK u.fs k=x:=⟨_,rfl⟩
 rw [hX,hx] at q1
 unfold keyV flV at q1
 obtain ⟨k0,k1,k2,k3,k4⟩:=HKY.out.cells
 have HXX:Hid (getK t.fs k=X∧hasK t.fs k=x):=⟨(HN.out.tw.getN k).trans hX,(HN.out.tw.hasN k).trans hx⟩
 have HX0:=hidE (fun (h:x=false)=>show X=zeroF by rw [← hX,getK_no (hx.trans h)])
 clear hX hx hv hne
 go_upto_region 60 with (go_at_call 19;go_must ((with_reducible refine q1.mono ?_);rintro e' W1 ⟨rfl,b1⟩))
 have b2:Below W0.heap.size W0 (W1.alloc (.cells #[.int .i64 X.key.kind,.int .i64 X.key.src,.int .i64 X.key.frm,.int .i64 X.key.dst,.int .i64 X.key.too,.int .i64 X.st,.int .i64 X.unt,.int .i64 X.stp,.int .i64 X.h0,.int .i64 X.h1,.int .i64 X.w0,.int .i64 X.w1,.bool X.d0,.bool X.d1,.int .i64 X.num] 45)):=b1.alloc b1.size _
 have p2:=FlAt.new W1 X
 obtain ⟨Y1,hY1⟩:∃ Y1,W1.heap.size=Y1:=⟨_,rfl⟩
 obtain ⟨W2,hW2⟩:∃ W2,W1.alloc (.cells #[.int .i64 X.key.kind,.int .i64 X.key.src,.int .i64 X.key.frm,.int .i64 X.key.dst,.int .i64 X.key.too,.int .i64 X.st,.int .i64 X.unt,.int .i64 X.stp,.int .i64 X.h0,.int .i64 X.h1,.int .i64 X.w0,.int .i64 X.w1,.bool X.d0,.bool X.d1,.int .i64 X.num] 45)=W2:=⟨_,rfl⟩
 try rw [hW2]
 rw [hW2] at b2 p2
 try rw [hY1]
 rw [hY1] at p2
 have HT2:=hidE (HT.out.below b2)
 have HP2:=hidE p2
 have hk2:=HKY.out.below HKY.out.lt b2
 clear k0 k1 k2 k3 k4 q1 b1 b2 p2 hW2 hY1 HT HKY
 obtain ⟨k0,k1,k2,k3,k4⟩:=hk2.cells
 obtain ⟨m,hm,hb⟩:=HT2.out.tb
 cases x
 ·have HG:=get_no A m t k W2 hb HKO.out HXX.out.2
  have hXz:=HX0.out rfl
  rw [show (#[.int .i64 0,.int .i64 0,.int .i64 0,.int .i64 0,.int .i64 0,.int .i64 0,.int .i64 0,.int .i64 0,.int .i64 0,.int .i64 0,.int .i64 0,.int .i64 0,.bool false,.bool false,.int .i64 0]:Array Value) = #[.int .i64 X.key.kind,.int .i64 X.key.src,.int .i64 X.key.frm,.int .i64 X.key.dst,.int .i64 X.key.too,.int .i64 X.st,.int .i64 X.unt,.int .i64 X.stp,.int .i64 X.h0,.int .i64 X.h1,.int .i64 X.w0,.int .i64 X.w1,.bool X.d0,.bool X.d1,.int .i64 X.num] by rw [hXz];rfl] at HG
  unfold keyV at HG
  have HG:=hidE HG
  clear hXz hm hb hk2 HXX HX0
  have q2:=HG.out
  go_upto_region 61 with (go_at_call 20;go_must ((with_reducible refine q2.mono ?_);rintro e' W3 ⟨rfl,b3⟩))
  have b4:Below W2.heap.size W2 (W3.alloc (.cells #[.int .i64 X.key.kind,.int .i64 X.key.src,.int .i64 X.key.frm,.int .i64 X.key.dst,.int .i64 X.key.too,.int .i64 X.st,.int .i64 X.unt,.int .i64 X.stp,.int .i64 X.h0,.int .i64 X.h1,.int .i64 X.w0,.int .i64 X.w1,.bool X.d0,.bool X.d1,.int .i64 X.num] 45)):=b3.alloc b3.size _
  have p4:=FlAt.new W3 X
  obtain ⟨Y3,hY3⟩:∃ Y3,W3.heap.size=Y3:=⟨_,rfl⟩
  obtain ⟨W4,hW4⟩:∃ W4,W3.alloc (.cells #[.int .i64 X.key.kind,.int .i64 X.key.src,.int .i64 X.key.frm,.int .i64 X.key.dst,.int .i64 X.key.too,.int .i64 X.st,.int .i64 X.unt,.int .i64 X.stp,.int .i64 X.h0,.int .i64 X.h1,.int .i64 X.w0,.int .i64 X.w1,.bool X.d0,.bool X.d1,.int .i64 X.num] 45)=W4:=⟨_,rfl⟩
  try rw [hW4]
  rw [hW4] at b4 p4
  try rw [hY3]
  rw [hY3] at p4
  have HT4:=hidE (HT2.out.below b4)
  have HP4:=hidE (HP2.out.below HP2.out.lt b4)
  have HR4:=hidE p4
  clear q2 b3 b4 p4 hW4 hY3 k0 k1 k2 k3 k4 HG
  refine tp_r61 w W4 A M t u _ _ _ (by kernel_rfl) HT4 HN _ _ _ _ _ _ _ _ _ _ _ _ _ _ _ _ _ _ _ _ _ _ _ _ _ _ _ _ _ _ _ _ _ _ _ _ _ _ _ _ _ _ _ _ _ _ _ _ _ _ _ _ _ _ _ _ _ _ _ _ _ _ _ _ _ _ _ _ _ _ _ _ _ _ _ _ _ _ _ _ _ _ _ _ _ _ _ _ _ _ _ _ _ _ _ _ _ _ _ _ _ _ _ _ _ _ _ _ _ _ _ _ _ _ _ _ _ _ _ _ _ _ _ _ _ _ _ _ _ _ _ _ _ _ _ _ _ _ _ _ _ _ _ _ _ _ _ _ _ _ _ _ _ _ _ _ _ _ _ _ _ _ _ _ _ _ _ _ _ _ _ _ _ _ _ _ _ _ _ _ _ _ _ _ _ _ _ _ _ _ _ _ _ _ _ _ _ _ _ _ _ _ _ _ _ _ _ _ _ _ _ _ _ _ _ _ _ _ _ _ _ _ _ _ _ _ _ _ _ _ _ _ _ _ _ _ _ _ _ _ _ _ _ _ _ _ _ _ _ _ _ _ _ _ _ _ _ _ _ _ _ _ _ _ _ _ _ _ _ _ _ _ _ _ _ _ _ _ _ _ _ _ _ _ _ _ _ _ _ _ _ _ _ _ _ _ _ _ _ _ _ _ _ _ _ _ _ _ _ ?_
  intro W5
  iterate 7 intro _
  intro b5
  conv =>
   arg 1
   zeta
  try go_step
  have HT5:=hidE (HT4.out.below b5)
  have HP5:=hidE (HP4.out.below HP4.out.lt b5)
  have HR5:=hidE (HR4.out.below HR4.out.lt b5)
  clear b5
  go_upto_region 62 with fail
  refine tp_r62f w W5 A M Y1 Y3 t u X _ _ _ (by kernel_rfl) HT5 HN HP5 HR5 _ _ _ _ _ _ _ _ _ _ _ _ _ _ _ _ _ _ _ _ _ _ _ _ _ _ _ _ _ _ _ _ _ _ _ _ _ _ _ _ _ _ _ _ _ _ _ _ _ _ _ _ _ _ _ _ _ _ _ _ _ _ _ _ _ _ _ _ _ _ _ _ _ _ _ _ _ _ _ _ _ _ _ _ _ _ _ _ _ _ _ _ _ _ _ _ _ _ _ _ _ _ _ _ _ _ _ _ _ _ _ _ _ _ _ _ _ _ _ _ _ _ _ _ _ _ _ _ _ _ _ _ _ _ _ _ _ _ _ _ _ _ _ _ _ _ _ _ _ _ _ _ _ _ _ _ _ _ _ _ _ _ _ _ _ _ _ _ _ _ _ _ _ _ _ _ _ _ _ _ _ _ _ _ _ _ _ _ _ _ _ _ _ _ _ _ _ _ _ _ _ _ _ _ _ _ _ _ _ _ _ _ _ _ _ _ _ _ _ _ _ _ _ _ _ _ _ _ _ _ _ _ _ _ _ _ _ _ _ _ _ _ _ _ _ _ _ _ _ _ _ _ _ _ _ _ _ _ _ _ _ _ _ _ _ _ _ _ _ _ _ _ _ _ _ _ _ _ _ _ _ _ _ _ _ _ _ _ _ _ _ _ _ _ _ _ _ _ _ _ _ _ _ ?_
  intro W6
  iterate 26 intro _
  intro b6
  conv =>
   arg 1
   zeta
  try go_step
  have HT6:=hidE (HT5.out.below b6)
  clear b6
  go_wp2_with fail
  exact HK.out _ _ _ _ _ _ _ _ _ _ _ _ _ _ _ _ _ _ _ _ _ _ _ _ _ _ _ _ _ _ _ _ _ _ _ _ _ _ _ _ _ _ _ _ _ _ _ _ _ _ _ _ ⟨_,_,HT6.out,HN.out⟩
 ·have HG:=get_ok A m t k W2 hb HKO.out HXX.out.2
  rw [HXX.out.1] at HG
  unfold keyV flV at HG
  have HG:=hidE HG
  clear hm hb hk2 HXX HX0
  have q2:=HG.out
  go_upto_region 61 with (go_at_call 20;go_must ((with_reducible refine q2.mono ?_);rintro e' W3 ⟨rfl,b3⟩))
  have b4:Below W2.heap.size W2 (W3.alloc (.cells #[.int .i64 X.key.kind,.int .i64 X.key.src,.int .i64 X.key.frm,.int .i64 X.key.dst,.int .i64 X.key.too,.int .i64 X.st,.int .i64 X.unt,.int .i64 X.stp,.int .i64 X.h0,.int .i64 X.h1,.int .i64 X.w0,.int .i64 X.w1,.bool X.d0,.bool X.d1,.int .i64 X.num] 45)):=b3.alloc b3.size _
  have p4:=FlAt.new W3 X
  obtain ⟨Y3,hY3⟩:∃ Y3,W3.heap.size=Y3:=⟨_,rfl⟩
  obtain ⟨W4,hW4⟩:∃ W4,W3.alloc (.cells #[.int .i64 X.key.kind,.int .i64 X.key.src,.int .i64 X.key.frm,.int .i64 X.key.dst,.int .i64 X.key.too,.int .i64 X.st,.int .i64 X.unt,.int .i64 X.stp,.int .i64 X.h0,.int .i64 X.h1,.int .i64 X.w0,.int .i64 X.w1,.bool X.d0,.bool X.d1,.int .i64 X.num] 45)=W4:=⟨_,rfl⟩
  try rw [hW4]
  rw [hW4] at b4 p4
  try rw [hY3]
  rw [hY3] at p4
  have HT4:=hidE (HT2.out.below b4)
  have HP4:=hidE (HP2.out.below HP2.out.lt b4)
  have HR4:=hidE p4
  clear q2 b3 b4 p4 hW4 hY3 k0 k1 k2 k3 k4 HG
  refine tp_r61 w W4 A M t u _ _ _ (by kernel_rfl) HT4 HN _ _ _ _ _ _ _ _ _ _ _ _ _ _ _ _ _ _ _ _ _ _ _ _ _ _ _ _ _ _ _ _ _ _ _ _ _ _ _ _ _ _ _ _ _ _ _ _ _ _ _ _ _ _ _ _ _ _ _ _ _ _ _ _ _ _ _ _ _ _ _ _ _ _ _ _ _ _ _ _ _ _ _ _ _ _ _ _ _ _ _ _ _ _ _ _ _ _ _ _ _ _ _ _ _ _ _ _ _ _ _ _ _ _ _ _ _ _ _ _ _ _ _ _ _ _ _ _ _ _ _ _ _ _ _ _ _ _ _ _ _ _ _ _ _ _ _ _ _ _ _ _ _ _ _ _ _ _ _ _ _ _ _ _ _ _ _ _ _ _ _ _ _ _ _ _ _ _ _ _ _ _ _ _ _ _ _ _ _ _ _ _ _ _ _ _ _ _ _ _ _ _ _ _ _ _ _ _ _ _ _ _ _ _ _ _ _ _ _ _ _ _ _ _ _ _ _ _ _ _ _ _ _ _ _ _ _ _ _ _ _ _ _ _ _ _ _ _ _ _ _ _ _ _ _ _ _ _ _ _ _ _ _ _ _ _ _ _ _ _ _ _ _ _ _ _ _ _ _ _ _ _ _ _ _ _ _ _ _ _ _ _ _ _ _ _ _ _ _ _ _ _ _ _ _ _ _ _ _ ?_
  intro W5
  iterate 7 intro _
  intro b5
  conv =>
   arg 1
   zeta
  try go_step
  have HT5:=hidE (HT4.out.below b5)
  have HP5:=hidE (HP4.out.below HP4.out.lt b5)
  have HR5:=hidE (HR4.out.below HR4.out.lt b5)
  clear b5
  go_upto_region 62 with fail
  refine tp_r62t w W5 A M Y1 Y3 t u X _ _ _ (by kernel_rfl) HT5 HN HP5 HR5 _ _ _ _ _ _ _ _ _ _ _ _ _ _ _ _ _ _ _ _ _ _ _ _ _ _ _ _ _ _ _ _ _ _ _ _ _ _ _ _ _ _ _ _ _ _ _ _ _ _ _ _ _ _ _ _ _ _ _ _ _ _ _ _ _ _ _ _ _ _ _ _ _ _ _ _ _ _ _ _ _ _ _ _ _ _ _ _ _ _ _ _ _ _ _ _ _ _ _ _ _ _ _ _ _ _ _ _ _ _ _ _ _ _ _ _ _ _ _ _ _ _ _ _ _ _ _ _ _ _ _ _ _ _ _ _ _ _ _ _ _ _ _ _ _ _ _ _ _ _ _ _ _ _ _ _ _ _ _ _ _ _ _ _ _ _ _ _ _ _ _ _ _ _ _ _ _ _ _ _ _ _ _ _ _ _ _ _ _ _ _ _ _ _ _ _ _ _ _ _ _ _ _ _ _ _ _ _ _ _ _ _ _ _ _ _ _ _ _ _ _ _ _ _ _ _ _ _ _ _ _ _ _ _ _ _ _ _ _ _ _ _ _ _ _ _ _ _ _ _ _ _ _ _ _ _ _ _ _ _ _ _ _ _ _ _ _ _ _ _ _ _ _ _ _ _ _ _ _ _ _ _ _ _ _ _ _ _ _ _ _ _ _ _ _ _ _ _ _ _ _ _ _ ?_
  intro W6
  iterate 26 intro _
  intro b6
  conv =>
   arg 1
   zeta
  try go_step
  have HT6:=hidE (HT5.out.below b6)
  clear b6
  go_wp2_with fail
  exact HK.out _ _ _ _ _ _ _ _ _ _ _ _ _ _ _ _ _ _ _ _ _ _ _ _ _ _ _ _ _ _ _ _ _ _ _ _ _ _ _ _ _ _ _ _ _ _ _ _ _ _ _ _ ⟨_,_,HT6.out,HN.out⟩
end Go.Proofs.YtkhheooofcpfdaaGreatDoor
